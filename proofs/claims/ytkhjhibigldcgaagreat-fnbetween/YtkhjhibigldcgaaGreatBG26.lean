/- l12DrawRun: a right program and a machine of a run of it are drawn. Conditions: the cursor and its bytes lie in memory as the reading says. DrawBetween: a program, a machine and a number are drawn. Conditions: the bytes of the draw lie in memory as the reading says. Base of the program and of the specification: where a channel begins. Conditions: lists of at most 2^20 + 100. The last number of a cell, and the places of a channel's cells. Conditions: the memory is right. Locked of the program and of the specification. Conditions: what comes in is counted. What a channel's cells tell, as a ring: ringIn of the program. Conditions: the memory is right. The row of a ring. Conditions: a room of 1 to 4. A box of three cells that may be written. No condition. -/
import Derived.Test.YtkhjhibigldcgaaGreatBG00
import Derived.Test.YtkhjhibigldcgaaGreatBProgOk
import Derived.Test.YtkhjhibigldcgaaGreatBG01
import Derived.Test.YtkhjhibigldcgaaGreatBG07
import Derived.Test.YtkhjhibigldcgaaGreatBG12
import Derived.Test.YtkhjhibigldcgaaGreatBG10
import Derived.Test.YtkhjhibigldcgaaGreatBG14
import Derived.Test.YtkhjhibigldcgaaGreatBG16
import Derived.Test.YtkhjhibigldcgaaGreatBG13
import Derived.Test.YtkhjhibigldcgaaGreatBG25
import Derived.Test.YtkhjhibigldcgaaGreatBG23
import Derived.Test.YtkhjhibigldcgaaGreatBG06
import Derived.Test.YtkhjhibigldcgaaGreatBG04
import Derived.Test.YtkhjhibigldcgaaGreatBG08
import Derived.Deep.QuietTactic
import Derived.BigQuiet
import Derived.Deep.RegionHeld3
import Derived.Deep.DeepCutAuto
namespace Go.Proofs.YtkhjhibigldcgaaGreat
section
set_option linter.unusedSimpArgs false
set_option linter.unusedVariables false
set_option maxRecDepth 100000
open Go.RowKit Go.Deep
theorem X4.but {w w':World} {b p:Nat} {v0 v1 v2 v3:Value} (h:X4 w b v0 v1 v2 v3) (hb:But p w w') (hp:b≠p):X4 w' b v0 v1 v2 v3:=h.blk (hb.block b h.x.z hp) hb.size
/- a program's box -/
structure P2 (w:World) (b:Nat) (v0 v1:Value):Prop where
 c0:w.cell? ⟨b,0,none⟩=some v0
 c1:w.cell? ⟨b,1,none⟩=some v1
 fz:∀ j,w.frozen? ⟨b,j,none⟩=false
 z:b < w.heap.size
theorem P2.but {w w':World} {b p:Nat} {v0 v1:Value} (h:P2 w b v0 v1) (hb:But p w w') (hp:b≠p):P2 w' b v0 v1:=
 ⟨(hb.cell (p:=⟨b,0,none⟩) h.z hp).trans h.c0,(hb.cell (p:=⟨b,1,none⟩) h.z hp).trans h.c1,fun j=>(hb.frozen (p:=⟨b,j,none⟩) h.z hp).trans (h.fz j),Nat.lt_of_lt_of_le h.z hb.size⟩
theorem P2.new (w:World) (v0 v1:Value) (T:TypeId):∃ W,w.alloc (.cells #[v0,v1] T)=W∧P2 W w.heap.size v0 v1∧Below w.heap.size w W∧W.heap.size=w.heap.size+1:=
 ⟨_,rfl,⟨by simp [go_sem],by simp [go_sem],fun j=>by simp [go_sem],by simp⟩,(Below.refl _ _).alloc (Nat.le_refl _) _,by simp⟩
/- the two boxes of the answer, empty, and the cursor below them (s12) or above (t12) -/
structure Two (w:World) (R:Nat):Prop where
 a:P2 w R (.slice none 0 0) (.slice none 0 0)
 b:X4 w (R+1) (.slice none 0 0) (.slice none 0 0) (.slice none 0 0) (.slice none 0 0)
theorem Two.but {w w':World} {R p:Nat} (h:Two w R) (hb:But p w w') (h1:R≠p) (h2:R+1≠p):Two w' R:=⟨h.a.but hb h1,h.b.but hb h2⟩
theorem Two.new (w:World) (T T':TypeId):∃ W,(w.alloc (.cells #[.slice none 0 0,.slice none 0 0] T)).alloc (.cells #[.slice none 0 0,.slice none 0 0,.slice none 0 0,.slice none 0 0] T')=W∧Two W w.heap.size∧Below w.heap.size w W∧W.heap.size=w.heap.size+2:=by
 obtain ⟨A,hA,a,kA,zA⟩:=P2.new w (.slice none 0 0) (.slice none 0 0) T
 obtain ⟨W,hW,x,kW,zW⟩:=X4.new A (.slice none 0 0) (.slice none 0 0) (.slice none 0 0) (.slice none 0 0) T'
 refine ⟨W,by rw [hA,hW],?_,kA.trans (kW.mono (by omega)),by rw [← hW];simp;omega⟩
 rw [zA] at x
 exact ⟨a.but (But.of_below (g:=w.heap.size+7) kW) (by omega),x⟩
structure Put6 (w Y:World) (R:Nat):Prop where
 k:Keep (R+2) w.heap.size w Y
 z:Y.heap.size=w.heap.size
 b:Below R w Y
theorem put6 (w:World) (R:Nat) (v0 v1 v2 v3 v4 v5:Value):Put6 w ((((((w.setCell ⟨R,0,none⟩ v0).setCell ⟨R,1,none⟩ v1).setCell ⟨R+1,0,none⟩ v2).setCell ⟨R+1,1,none⟩ v3).setCell ⟨R+1,2,none⟩ v4).setCell ⟨R+1,3,none⟩ v5) R:=by
 refine ⟨fun b b1 b2=>?_,by simp,?_⟩
 ·rw [Below.heap_setCell _ _ _ b (by show b≠R+1;omega),Below.heap_setCell _ _ _ b (by show b≠R+1;omega),Below.heap_setCell _ _ _ b (by show b≠R+1;omega),Below.heap_setCell _ _ _ b (by show b≠R+1;omega),Below.heap_setCell _ _ _ b (by show b≠R;omega),Below.heap_setCell _ _ _ b (by show b≠R;omega)]
 ·refine Below.setCell (Below.setCell (Below.setCell (Below.setCell (Below.setCell (Below.setCell (Below.refl _ _) ?_ _) ?_ _) ?_ _) ?_ _) ?_ _) ?_ _
  all_goals first | exact Nat.le_refl _ | exact Nat.le_succ _
theorem Put6.drew {w Y:World} {R:Nat} (h:Put6 w Y R):Put6 w Y.drew R:=⟨h.k,h.z,h.b.drew⟩
theorem cellSet {w:World} {g i:Nat} {v u:Value} (h:w.cell? ⟨g,i,none⟩=some u):(w.setCell ⟨g,i,none⟩ v).cell? ⟨g,i,none⟩=some v:=setC_at (by rw [h];rfl)
theorem cellOth {w:World} {g i b j:Nat} {v u:Value} (h:w.cell? ⟨g,i,none⟩=some u) (e:¬ (g=b∧i=j)):(w.setCell ⟨b,j,none⟩ v).cell? ⟨g,i,none⟩=some u:=by
 rw [World.cell?_setCell_other]
 ·exact h
 ·intro x
  injection x with x1 x2
  exact e ⟨by simp_all,by simp_all⟩
theorem Two.put {w:World} {R:Nat} (h:Two w R) (v0 v1 v2 v3 v4 v5:Value):∃ Y,((((((w.setCell ⟨R,0,none⟩ v0).setCell ⟨R,1,none⟩ v1).setCell ⟨R+1,0,none⟩ v2).setCell ⟨R+1,1,none⟩ v3).setCell ⟨R+1,2,none⟩ v4).setCell ⟨R+1,3,none⟩ v5)=Y∧Put6 w Y R∧Y.cell? ⟨R,0,none⟩=some v0∧Y.cell? ⟨R,1,none⟩=some v1∧Y.cell? ⟨R+1,0,none⟩=some v2∧Y.cell? ⟨R+1,1,none⟩=some v3∧Y.cell? ⟨R+1,2,none⟩=some v4∧Y.cell? ⟨R+1,3,none⟩=some v5:=by
 obtain ⟨⟨a0,a1,-,-⟩,⟨⟨-,b0,b1,b2,b3⟩,-⟩⟩:=h
 have t:∀ i j:Nat,¬ (R+1=R∧i=j):=fun i j e=>by omega
 have t':∀ i j:Nat,¬ (R=R+1∧i=j):=fun i j e=>by omega
 have p0:=cellSet (v:=v0) a0
 have p1:=cellSet (v:=v1) (cellOth (v:=v0) (b:=R) (j:=0) a1 (by omega))
 have q0:=cellOth (v:=v1) (b:=R) (j:=1) p0 (by omega)
 have u0:=cellOth (v:=v1) (b:=R) (j:=1) (cellOth (v:=v0) (b:=R) (j:=0) b0 (t 0 0)) (t 0 1)
 have u1:=cellOth (v:=v1) (b:=R) (j:=1) (cellOth (v:=v0) (b:=R) (j:=0) b1 (t 1 0)) (t 1 1)
 have u2:=cellOth (v:=v1) (b:=R) (j:=1) (cellOth (v:=v0) (b:=R) (j:=0) b2 (t 2 0)) (t 2 1)
 have u3:=cellOth (v:=v1) (b:=R) (j:=1) (cellOth (v:=v0) (b:=R) (j:=0) b3 (t 3 0)) (t 3 1)
 refine ⟨_,rfl,put6 _ _ _ _ _ _ _ _,?_,?_,?_,?_,?_,?_⟩
 ·exact cellOth (cellOth (cellOth (cellOth q0 (t' 0 0)) (t' 0 1)) (t' 0 2)) (t' 0 3)
 ·exact cellOth (cellOth (cellOth (cellOth p1 (t' 1 0)) (t' 1 1)) (t' 1 2)) (t' 1 3)
 ·exact cellOth (cellOth (cellOth (cellSet u0) (by omega)) (by omega)) (by omega)
 ·exact cellOth (cellOth (cellSet (cellOth u1 (by omega))) (by omega)) (by omega)
 ·exact cellOth (cellSet (cellOth (cellOth u2 (by omega)) (by omega))) (by omega)
 ·exact cellSet (cellOth (cellOth (cellOth u3 (by omega)) (by omega)) (by omega))
structure J12 (w0 w:World) (p:Nat) (s:Option Addr) (n c R:Nat):Prop where
 cb:CBx158 w p s n c
 t:Two w R
 but:But p w0 w
 r0:w0.heap.size=R
 pR:p < R
theorem J12.step {w0 w w':World} {p n c R:Nat} {s:Option Addr} (h:J12 w0 w p s n c R) (hc:CBx158 w' p s n c) (hb:But p w w'):J12 w0 w' p s n c R:=
 ⟨hc,h.t.but hb (by have:=h.pR;omega) (by have:=h.pR;omega),h.but.trans hb,h.r0,h.pR⟩
theorem J12.bel {w0 w w':World} {p n c R:Nat} {s:Option Addr} (h:J12 w0 w p s n c R) (hb:Below w.heap.size w w'):J12 w0 w' p s n c R:=h.step (h.cb.keep hb) (But.of_below hb)
theorem J12.low {w0 w w':World} {p n c R B:Nat} {s:Option Addr} (h:J12 w0 w p s n c R) (b:Below B w w') (hB:R+2≤B):J12 w0 w' p s n c R:=by
 have h0:=h.r0
 have h1:=h.pR
 refine ⟨h.cb.keepB b (by omega),⟨⟨(b.cell (p:=⟨R,0,none⟩) (by show R < B;omega)).trans h.t.a.c0,(b.cell (p:=⟨R,1,none⟩) (by show R < B;omega)).trans h.t.a.c1,fun j=>(b.frozen (p:=⟨R,j,none⟩) (by show R < B;omega)).trans (h.t.a.fz j),Nat.lt_of_lt_of_le h.t.a.z b.size⟩,h.t.b.keep b (by omega)⟩,but_low h.but (b.mono (by omega)),h0,h1⟩
def Run12 (w w':World) (p:Nat) (s:Option Addr) (n c:Nat) (s0 s1:Option Addr) (P:PD) (q:MP) (D:MD):Prop:=
 ProgR w' w.heap.size w'.heap.size s0 s1 P∧MaR w' w.heap.size w'.heap.size q.s1 q.s2 q.s3 q.s4 D∧Fits P∧progB P=true∧MaSz D≤40000∧CBx158 w' p s n c∧But p w w'
theorem J12.fin {w0 w Y:World} {p n c R lo lo' hi':Nat} {s s0 s1:Option Addr} {P:PD} {q:MP} {D:MD} (h:J12 w0 w p s n c R) (y:Put6 w Y R) (hP:ProgR w lo hi' s0 s1 P) (hi1:hi'≤w.heap.size) (hm:MaR w lo' w.heap.size q.s1 q.s2 q.s3 q.s4 D) (h1:R+2≤lo) (h2:R+2≤lo') (hf:Fits P) (hb:progB P=true) (hz:MaSz D≤40000):Run12 w0 Y p s n c s0 s1 P q D:=by
 have h0:=h.r0
 have k1:Keep lo hi' w Y:=fun b b1 b2=>y.k b (by omega) (by omega)
 have k2:Keep lo' w.heap.size w Y:=fun b b1 b2=>y.k b (by omega) b2
 have a:=ProgR.keep' hP k1
 have b:=y.b
 have z:=y.z
 refine ⟨⟨a.1.mono (by omega) (by omega),BodsR.mono a.2 (by omega) (by omega)⟩,MaR.mono (hm.keep k2) (by omega) (by omega),hf,hb,hz,h.cb.keepB y.b h.pR,but_low h.but (by rw [h0];exact y.b)⟩
/- the row of one code of one end -/
theorem cs_end (w:World) (T T':TypeId):∃ W,(w.alloc (.cells #[.int .i64 12,.int .i64 0,.int .i64 0,.int .i64 0,.int .i64 0] T)).alloc (.cells #[.slice (some ⟨w.heap.size,0,none⟩) 1 1] T')=W∧CsR W w.heap.size W.heap.size (some ⟨w.heap.size+1,0,none⟩) [[⟨12,0,0,0,0⟩]]∧Below w.heap.size w W:=by
 refine ⟨_,rfl,.inr ⟨w.heap.size+1,0,rfl,by omega,by simp,fun i x hi=>?_⟩,((Below.refl _ _).alloc (Nat.le_refl _) _).alloc (by simp) _⟩
 match i,hi with
 | 0,hi=>
  simp at hi
  subst hi
  refine ⟨some ⟨w.heap.size,0,none⟩,1,by simp [go_sem],.inr ⟨w.heap.size,0,rfl,Nat.le_refl _,by simp;omega,fun j hj=>?_⟩⟩
  match j,hj with
  | 0,_=>exact ⟨by simp [go_sem],by simp [go_sem],by simp [go_sem],by simp [go_sem],by simp [go_sem]⟩
 | k+1,hi=>simp at hi
set_option maxRecDepth 100000 in
set_option maxHeartbeats 8000000 in
theorem drawRun_cb (p : Nat) (s : Option Addr) (n c : Nat) (w : World) (h : CBx158 w p s n c) :
  Calls Tryz.prog 10 #[.pointer (some ⟨p,0,none⟩)] w fun e w'=>∃ (s0 s1:Option Addr) (c0 c1:Nat) (P:PD) (q:MP) (D:MD),e=.returned (.tuple #[.agg #[.slice s0 P.caps.length c0,.slice s1 P.bods.length c1],.agg #[.slice q.s1 D.codes.length q.c1,.slice q.s2 D.cores.length q.c2,.slice q.s3 D.mem.length q.c3,.slice q.s4 D.tr.length q.c4]])∧Run12 w w' p s n c s0 s1 P q D:=by
 have hp:=h.lt
 have H0:Hid (CBx158 w p s n c):=h
 clear h
 go_enter Tryz.func10,Tryz.ntmps10
 go_wp2_with fail
 obtain ⟨W,hW,tw,kW,zW⟩:=Two.new w 27 35
 rw [hW]
 have J0:Hid (J12 w W p s n c w.heap.size):=⟨H0.out.keep kW,tw,But.of_below kW,rfl,hp⟩
 have S0:Hid (W.heap.size=w.heap.size+2):=zW
 clear hW H0 tw kW zW
 refine (drawRight_ok p s n c W J0.out.cb).mono ?_
 rintro e w2 ⟨v0,v1,cs,bs,rfl,ho0,ho1,hcs,hbs,hco,hbo,hc2,hb2⟩
 obtain ⟨s0,c0,s1,c1,e0,e1,hP⟩:=OwnB.prog (p:=⟨cs,bs⟩) ho0 ho1
 subst e0 e1
 have J2:Hid (J12 w w2 p s n c w.heap.size):=J0.out.step hc2 hb2
 have PB:Hid (progB ⟨cs,bs⟩=true):=prog_ok hcs hbs hco hbo
 have FP:Hid (Fits ⟨cs,bs⟩):=fits_ok hcs.2 hbs.2 hbo
 have BL:Hid (bs.length≤4):=hbs.2
 have zz2:=hb2.size
 have S2:Hid (w.heap.size+2≤w2.heap.size):=by show _≤_;have:=S0.out;omega
 have HP2:Hid (ProgR w2 W.heap.size w2.heap.size s0 s1 ⟨cs,bs⟩):=hP
 clear ho0 ho1 hcs hbs hco hbo hc2 hb2 hP J0
 go_upto_region 2 with fail
 obtain ⟨V,hV,xV,kV,zV⟩:=P2.new w2 (.slice s0 cs.length c0) (.slice s1 bs.length c1) 27
 rw [hV]
 clear hV
 obtain ⟨xb,hxb⟩:∃ xb,w2.heap.size=xb:=⟨_,rfl⟩
 rw [hxb] at xV zV ⊢
 have JV:Hid (J12 w V p s n c w.heap.size):=J2.out.bel kV
 have PV:Hid (ProgR V W.heap.size xb s0 s1 ⟨cs,bs⟩):=by have h:=ProgR.keep' HP2.out (Keep.of_below kV (Nat.le_refl _));rw [hxb] at h;exact h
 have hpx:p < xb:=by have:=S2.out;omega
 have hpV:p < V.heap.size:=by omega
 have hxV:xb < V.heap.size:=by omega
 have RB:Hid (∀ Y,But p V Y→Y.cell? ⟨xb,0,none⟩=some (.slice s0 cs.length c0)∧Y.cell? ⟨xb,1,none⟩=some (.slice s1 bs.length c1)):=fun Y hY=>by
  have q:=xV.but hY (by omega)
  exact ⟨q.c0,q.c1⟩
 have CT1:Hid (∀ (X:World) (pB:Option Nat),StW V X p s n c pB→Calls Tryz.prog 19 #[.pointer (some ⟨p,0,none⟩),.int .i64 bs.length,.int .i64 30] X fun e w'=>∃ (sp:Option Addr) (cp:Nat) (lp:List ND),e=.returned (.slice sp lp.length cp)∧Hid (PkW V w' p s n c pB sp lp)∧w'.cell? ⟨xb,0,none⟩=some (.slice s0 cs.length c0)∧w'.cell? ⟨xb,1,none⟩=some (.slice s1 bs.length c1)):=fun X pB hX=>by
  refine (picksW p s n c bs.length 30 hX hpV BL.out (by omega) (by omega)).mono ?_
  rintro e w' ⟨sp,cp,lp,he,hk⟩
  exact ⟨sp,cp,lp,he,hk,RB.out _ hk.st.bt⟩
 have CT2:Hid (∀ (X:World) (pB:Option Nat) (sp:Option Addr) (cp:Nat) (lp:List ND),PkW V X p s n c pB sp lp→Calls Tryz.prog 18 #[.agg #[.slice s0 cs.length c0,.slice s1 bs.length c1],.slice sp lp.length cp] X fun e w'=>∃ (v:Value) (q:MP) (D:MD) (ok:Bool),e=.returned (.tuple #[v,.agg #[.slice q.s1 D.codes.length q.c1,.slice q.s2 D.cores.length q.c2,.slice q.s3 D.mem.length q.c3,.slice q.s4 D.tr.length q.c4],.bool ok])∧Hid (RwW V w' p s n c pB ⟨cs,bs⟩ q D ok)∧w'.cell? ⟨xb,0,none⟩=some (.slice s0 cs.length c0)∧w'.cell? ⟨xb,1,none⟩=some (.slice s1 bs.length c1)):=fun X pB sp cp lp hX=>by
  refine (witW (P:=⟨cs,bs⟩) hX PV.out (by have:=S0.out;omega) (by omega) FP.out PB.out).mono ?_
  rintro e w' ⟨v,q,D,ok,he,hk⟩
  exact ⟨v,q,D,ok,he,hk,RB.out _ hk.st.bt⟩
 have ST0:Hid (StW V V p s n c none):=⟨JV.out.cb,But.refl _ _,trivial,fun b e=>by cases e⟩
 have hdr:∀ X:World,X.drew.heap.size=X.heap.size:=fun _=>rfl
 have nV:¬ xb=V.heap.size:=by omega
 have nV':¬ V.heap.size=xb:=by omega
 have x0:=xV.c0
 have x1:=xV.c1
 have IC:Hid (∀ Y,But p V Y→ProgR Y W.heap.size xb s0 s1 ⟨cs,bs⟩):=fun Y hY=>ProgR.keep' PV.out (fun b b1 b2=>hY.block b (by omega) (by have:=S0.out;omega))
 have hRV:Hid (w.heap.size+2≤V.heap.size):=by show _≤_;have:=S2.out;omega
 have hRx:Hid (w.heap.size+2≤xb):=by show _≤_;have:=S2.out;omega
 clear HP2 PV J2 S2 kV hxb zV xV
 go_cut [6,7] (fun s8 s9 wx=>CutW V p s n c ⟨cs,bs⟩ s8 s9 wx)
 case first=>
  go_region_held3 (fun w'=>w'.cell? ⟨xb,0,none⟩=some (.slice s0 cs.length c0)∧w'.cell? ⟨xb,1,none⟩=some (.slice s1 bs.length c1)) (go_keep) (first | (go_at_call 19;with_reducible refine (CT1.out _ _ (by first | with_reducible exact ST0.out.drew | with_reducible exact ST0.out.drew.made.drew | with_reducible exact ST0.out.made.drew | with_reducible exact ST0.out.drew.made | with_reducible exact ST0.out.made | with_reducible exact ST0.out)).mono ?_;rintro e wC ⟨sp,cp,lp,rfl,PK,yC0,yC1⟩;have zC:=PK.out.st.bt.size;have nC:¬ xb=wC.heap.size:=(by omega);have nC':¬ wC.heap.size=xb:=(by omega);(try obtain ⟨⟨⟨b9,b0',b1',b2',b3'⟩,bf'⟩,-⟩:=boxSome PK.out.st.b)) | (go_at_call 18;with_reducible refine (CT2.out _ _ _ _ _ (by first | with_reducible exact PK.out | with_reducible exact PK.out.made | with_reducible exact PK.out.drew | with_reducible exact PK.out.made.drew | with_reducible exact PK.out.drew.made | with_reducible exact PK.out.drew.made.drew)).mono ?_;rintro e wD ⟨v,q,D,ok,rfl,RW,yD0,yD1⟩;have zD:=RW.out.st.bt.size;have nD:¬ xb=wD.heap.size:=(by omega);have nD':¬ wD.heap.size=xb:=(by omega);(try obtain ⟨⟨⟨d9,d0',d1',d2',d3'⟩,df'⟩,-⟩:=boxSome RW.out.st.b)) | fail)
  all_goals
   go_wp2_with fail
   go_meet
   first
    | with_reducible exact cutW_new RW.out
    | with_reducible exact cutW_set hpV RW.out
 case rest=>
  obtain ⟨bo,q,D,ok,rfl,rfl,hbo,hX4,hma,hsz,hok,hcb,hbt⟩:=hcut
  have JC:Hid (J12 w wc p s n c w.heap.size):=JV.out.step hcb hbt
  have MC:Hid (MaR wc V.heap.size wc.heap.size q.s1 q.s2 q.s3 q.s4 D):=hma
  have MZ:Hid (MaSz D≤40000):=hsz
  have BT:Hid (But p V wc):=hbt
  have X4C:Hid (X4 wc bo (.slice q.s1 D.codes.length q.c1) (.slice q.s2 D.cores.length q.c2) (.slice q.s3 D.mem.length q.c3) (.slice q.s4 D.tr.length q.c4)):=hX4
  have nB:¬ bo=w.heap.size:=by have:=hRV.out;omega
  have nB':¬ w.heap.size=bo:=by omega
  have nB1:¬ bo=w.heap.size+1:=by have:=hRV.out;omega
  have nB1':¬ w.heap.size+1=bo:=by omega
  have nX:¬ xb=w.heap.size:=by have:=hRx.out;omega
  have nX':¬ w.heap.size=xb:=by omega
  have nX1:¬ xb=w.heap.size+1:=by have:=hRx.out;omega
  have nX1':¬ w.heap.size+1=xb:=by omega
  have nR:¬ w.heap.size=w.heap.size+1:=by omega
  have nR':¬ w.heap.size+1=w.heap.size:=by omega
  have nXB:¬ xb=bo:=by omega
  have nXB':¬ bo=xb:=by omega
  clear hma hsz hok hcb hbt x0 x1 CT1 CT2 ST0 JV hdr nV nV' hX4
  cases ok
  case' false=>
   obtain ⟨⟨zo,m0,m1,m2,m3⟩,mf⟩:=X4C.out
   go_wp2_with fail
   obtain ⟨A,hA,csA,kA⟩:=cs_end wc 65 66
   rw [hA]
   clear hA
   have CALL:=specMachNewW_any (some ⟨wc.heap.size+1,0,none⟩) 1 wc.heap.size A.heap.size [[⟨12,0,0,0,0⟩]] A csA (Nat.le_refl _) (by decide)
   have EZ:Hid (MaSz (newMa [[⟨12,0,0,0,0⟩]])≤40000):=by show _≤_;decide+kernel
   obtain ⟨E,hE⟩:∃ E,newMa [[(⟨12,0,0,0,0⟩:I5)]]=E:=⟨_,rfl⟩
   rw [hE] at CALL EZ
   obtain ⟨cb,hcb⟩:∃ cb,codesB [[(⟨12,0,0,0,0⟩:I5)]]=cb:=⟨_,rfl⟩
   rw [hcb] at CALL
   clear hE hcb csA
   refine CALL.mono ?_
   rintro e w5 ⟨pz,rfl,hmo,hb5,-⟩
   have k5:Below wc.heap.size wc w5:=kA.trans (hb5.mono kA.size)
   have zA:=kA.size
   have X5:=X4C.out.keep k5 X4C.out.x.z
   have zo9:=X4C.out.x.z
   obtain ⟨Z,hZ,xZ,mZ,sZ,fZ,bZ⟩:=X4.put4 (.slice pz.s1 E.codes.length pz.c1) (.slice pz.s2 E.cores.length pz.c2) (.slice pz.s3 E.mem.length pz.c3) (.slice pz.s4 E.tr.length pz.c4) X5 hmo.ma (by omega)
   have bVZ:Below V.heap.size w5 Z:=bZ _ _ (Below.refl _ _) hbo
   have JZ:Hid (J12 w Z p s n c w.heap.size):=(JC.out.bel k5).low bVZ hRV.out
   have BZ:Hid (But p V Z):=but_low (BT.out.trans (But.of_below k5)) bVZ
   have MZZ:Hid (MaR Z V.heap.size Z.heap.size pz.s1 pz.s2 pz.s3 pz.s4 E):=MaR.mono mZ (by have:=BT.out.size;omega) (by omega)
   have XZ:=hidM1 xZ
   obtain ⟨⟨-,t0,t1,t2,t3⟩,tf⟩:=X5
   have HZ:=hidM1 hZ
   clear CALL hmo hb5 kA k5 zA zo9 hZ xZ mZ sZ fZ bZ bVZ m0 m1 m2 m3 mf MC MZ X4C BT JC zo
   go_upto_region 5 with fail
   rw [HZ.out]
   clear HZ t0 t1 t2 t3 tf
  case' true=>
   obtain ⟨Z,hZ⟩:∃ Z,wc=Z:=⟨_,rfl⟩
   rw [hZ] at JC MC BT X4C
   obtain ⟨pz,hpz⟩:∃ pz,q=pz:=⟨_,rfl⟩
   obtain ⟨E,hE⟩:∃ E,D=E:=⟨_,rfl⟩
   rw [hpz,hE] at MC X4C
   rw [hE] at MZ
   have JZ:=hidM1 JC.out
   have BZ:=hidM1 BT.out
   have MZZ:=hidM1 MC.out
   have XZ:=hidM1 X4C.out
   have EZ:=hidM1 MZ.out
   clear JC BT MC X4C MZ hpz hE
   go_upto_region 5 with fail
   try rw [hZ]
   clear hZ
  all_goals
   obtain ⟨x0,x1⟩:=RB.out _ BZ.out
   obtain ⟨⟨-,m0,m1,m2,m3⟩,-⟩:=XZ.out
   obtain ⟨⟨y0,y1,yf,yz⟩,⟨⟨-,r0,r1,r2,r3⟩,rf⟩⟩:=JZ.out.t
   go_region
   all_goals
    obtain ⟨Y,hY,py,e0,e1,e2,e3,e4,e5⟩:=JZ.out.t.put (.slice s0 cs.length c0) (.slice s1 bs.length c1) (.slice pz.s1 E.codes.length pz.c1) (.slice pz.s2 E.cores.length pz.c2) (.slice pz.s3 E.mem.length pz.c3) (.slice pz.s4 E.tr.length pz.c4)
    have F9:=fun Y (y:Put6 Z Y w.heap.size)=>JZ.out.fin y (IC.out _ BZ.out) (by have:=BZ.out.size;omega) MZZ.out (by have:=S0.out;omega) hRV.out FP.out PB.out EZ.out
    have PY:=hidM1 (F9 _ py)
    have PD:=hidM1 (F9 _ py.drew)
    rw [hY]
    clear hY py F9 x0 x1 m0 m1 m2 m3 y0 y1 yf yz r0 r1 r2 r3 rf JZ BZ MZZ XZ EZ RB IC hRV hRx FP PB
    go_wp2
    refine bodyPost_ret (v:=.tuple #[.agg #[.slice s0 cs.length c0,.slice s1 bs.length c1],.agg #[.slice pz.s1 E.codes.length pz.c1,.slice pz.s2 E.cores.length pz.c2,.slice pz.s3 E.mem.length pz.c3,.slice pz.s4 E.tr.length pz.c4]]) (by simp [results,Tryz.results10,go_sem,e0,e1,e2,e3,e4,e5]) rfl ⟨s0,s1,c0,c1,⟨cs,bs⟩,pz,E,rfl,?_⟩
    first | exact PY.out | exact PD.out
end
section
set_option linter.unusedSimpArgs false
set_option linter.unusedVariables false
set_option maxRecDepth 100000
open Go.RowKit Go.Deep
/- the state of DrawBetween: its answer's boxes at R, the cursor above them, what was drawn above the cursor -/
structure Jb (w0 w:World) (p:Nat) (s:Option Addr) (n c R X lo:Nat) (s0 s1:Option Addr) (c0 c1:Nat) (P:PD) (q:MP) (D:MD):Prop where
 cb:CBx158 w p s n c
 t:Two w R
 x:P2 w X (.slice s0 P.caps.length c0) (.slice s1 P.bods.length c1)
 y:X4 w (X+1) (.slice q.s1 D.codes.length q.c1) (.slice q.s2 D.cores.length q.c2) (.slice q.s3 D.mem.length q.c3) (.slice q.s4 D.tr.length q.c4)
 pr:ProgR w lo w.heap.size s0 s1 P
 ma:MaR w lo w.heap.size q.s1 q.s2 q.s3 q.s4 D
 low:Below w0.heap.size w0 w
 r0:w0.heap.size=R
 rp:R+2≤p
 pl:p < lo
 lx:lo≤X
theorem Jb.step {w0 w w':World} {p n c R X lo c0 c1:Nat} {s s0 s1:Option Addr} {P:PD} {q:MP} {D:MD} (h:Jb w0 w p s n c R X lo s0 s1 c0 c1 P q D) (hc:CBx158 w' p s n c) (hb:But p w w'):Jb w0 w' p s n c R X lo s0 s1 c0 c1 P q D:=by
 have h1:=h.r0
 have h2:=h.rp
 have h3:=h.pl
 have h4:=h.lx
 have h5:=h.x.z
 have h6:=h.t.b.x.z
 have hs:=hb.size
 have hk:Keep lo w.heap.size w w':=fun b b1 b2=>hb.block b b2 (by omega)
 have a:=ProgR.keep' h.pr hk
 exact ⟨hc,h.t.but hb (by omega) (by omega),h.x.but hb (by omega),h.y.but hb (by omega),⟨a.1.mono (Nat.le_refl _) hs,BodsR.mono a.2 (Nat.le_refl _) hs⟩,MaR.mono (h.ma.keep hk) (Nat.le_refl _) hs,h.low.trans (hb.below (by omega) (by omega)),h1,h2,h3,h4⟩
theorem Jb.grow {w0 w w':World} {p n c R X lo c0 c1:Nat} {s s0 s1:Option Addr} {P:PD} {q:MP} {D:MD} (h:Jb w0 w p s n c R X lo s0 s1 c0 c1 P q D) (hb:Below w.heap.size w w'):Jb w0 w' p s n c R X lo s0 s1 c0 c1 P q D:=h.step (h.cb.keep hb) (But.of_below hb)
theorem Jb.below {w0 w : World} {p n c R X lo c0 c1 : Nat} {s s0 s1 : Option Addr} {P : PD} {q : MP} {D : MD} (h : Jb w0 w p s n c R X lo s0 s1 c0 c1 P q D) (k : Int) (hq0 : 0 < k) (hq : k ≤ 256) :
  Calls Tryz.prog 11 #[.pointer (some ⟨p,0,none⟩),.int .i64 k] w fun e w'=>∃ x:Int,e=.returned (.int .i64 x)∧Hid (Jb w0 w' p s n c R X lo s0 s1 c0 c1 P q D):=by
 refine (below_cb p s n c k w h.cb hq0 hq).mono ?_
 rintro e w' ⟨x,rfl,x0,x1,hc,hb⟩
 exact ⟨x,rfl,h.step hc hb⟩
theorem Jb.fin {w0 w Y:World} {p n c R X lo c0 c1:Nat} {s s0 s1:Option Addr} {P:PD} {q:MP} {D:MD} (h:Jb w0 w p s n c R X lo s0 s1 c0 c1 P q D) (y:Put6 w Y R):ProgR Y w0.heap.size Y.heap.size s0 s1 P∧MaR Y w0.heap.size Y.heap.size q.s1 q.s2 q.s3 q.s4 D∧Below w0.heap.size w0 Y:=by
 have h1:=h.r0
 have h2:=h.rp
 have h3:=h.pl
 have z:=y.z
 have hk:Keep lo w.heap.size w Y:=fun b b1 b2=>y.k b (by omega) b2
 have a:=ProgR.keep' h.pr hk
 exact ⟨⟨a.1.mono (by omega) (by omega),BodsR.mono a.2 (by omega) (by omega)⟩,MaR.mono (h.ma.keep hk) (by omega) (by omega),h.low.trans (y.b.mono (by omega))⟩
set_option maxRecDepth 100000 in
set_option maxHeartbeats 8000000 in
theorem drawBt_any (s : Option Addr) (n c : Nat) (w : World) (hb : Bytes w w.heap.size s n) (hn : n ≤ maxLen) :
  Calls Tryz.prog 5 #[.slice s n c] w fun e w'=>∃ (s0 s1:Option Addr) (c0 c1:Nat) (P:PD) (q:MP) (D:MD) (who:Int),e=.returned (.tuple #[.agg #[.slice s0 P.caps.length c0,.slice s1 P.bods.length c1],.agg #[.slice q.s1 D.codes.length q.c1,.slice q.s2 D.cores.length q.c2,.slice q.s3 D.mem.length q.c3,.slice q.s4 D.tr.length q.c4],.int .i64 who])∧ProgR w' w.heap.size w'.heap.size s0 s1 P∧MaR w' w.heap.size w'.heap.size q.s1 q.s2 q.s3 q.s4 D∧Fits P∧progB P=true∧MaSz D≤40000∧Below w.heap.size w w':=by
 have HB:Hid (Bytes w w.heap.size s n):=hb
 have HN:Hid (n≤maxLen):=hn
 clear hb hn
 go_enter Tryz.func5,Tryz.ntmps5
 go_wp2_with fail
 obtain ⟨W,hW,tw,kW,zW⟩:=Two.new w 27 35
 rw [hW]
 have TW:Hid (Two W w.heap.size):=tw
 have KW:Hid (Below w.heap.size w W):=kW
 have S0:Hid (W.heap.size=w.heap.size+2):=zW
 clear hW tw kW zW
 refine (new_cb s n c W (HB.out.up KW.out) HN.out).mono ?_
 rintro e w1 ⟨rfl,hc1,hb1,hs1⟩
 have HS1:Hid (w1.heap.size=W.heap.size+1):=hs1
 have T1:Hid (Two w1 w.heap.size):=TW.out.but (p:=w.heap.size+7) (But.of_below hb1) (by omega) (by omega)
 have K1:Hid (Below w.heap.size w w1):=KW.out.trans (hb1.mono (by have:=S0.out;omega))
 have C1:=hidM1 hc1
 clear hc1 hb1 hs1 TW KW HB HN
 go_wp2_with fail
 refine (drawRun_cb W.heap.size s n c w1 C1.out).mono ?_
 rintro e w2 ⟨s0,s1,c0,c1,P,q,D,rfl,hP,hM,hf,hp,hz,hc2,hb2⟩
 have FP:=hidM1 hf
 have PB:=hidM1 hp
 have MZ:=hidM1 hz
 have HP:=hidM1 hP
 have HM:=hidM1 hM
 have C2:=hidM1 hc2
 have B2:=hidM1 hb2
 clear hP hM hf hp hz hc2 hb2 C1
 go_upto_region 3 with fail
 obtain ⟨A,hA,xA,kA,zA⟩:=P2.new w2 (.slice s0 P.caps.length c0) (.slice s1 P.bods.length c1) 27
 rw [hA]
 obtain ⟨U,hU,xU,kU,zU⟩:=X4.new A (.slice q.s1 D.codes.length q.c1) (.slice q.s2 D.cores.length q.c2) (.slice q.s3 D.mem.length q.c3) (.slice q.s4 D.tr.length q.c4) 35
 have F:Hid (Jb w U W.heap.size s n c w.heap.size w2.heap.size w1.heap.size s0 s1 c0 c1 P q D):=by
  have z2:=B2.out.size
  have S0:=S0.out
  have hs1:=HS1.out
  have k2:Below w2.heap.size w2 U:=kA.trans (kU.mono (by omega))
  have zk:=k2.size
  have kk:Keep w1.heap.size w2.heap.size w2 U:=Keep.of_below k2 (Nat.le_refl _)
  have a:=ProgR.keep' HP.out kk
  rw [zA] at xU
  refine ⟨C2.out.keep k2,(T1.out.but B2.out (by omega) (by omega)).but (But.of_below (g:=w.heap.size+7) k2) (by omega) (by omega),xA.but (But.of_below (g:=w2.heap.size+7) kU) (by omega),xU,⟨a.1.mono (Nat.le_refl _) zk,BodsR.mono a.2 (Nat.le_refl _) zk⟩,MaR.mono (HM.out.keep kk) (Nat.le_refl _) zk,(K1.out.trans (B2.out.below (by omega) (by omega))).trans (k2.mono (by omega)),rfl,by omega,by omega,z2⟩
 have HU:=hidM1 hU
 have ZA:=hidM1 zA
 clear hA hU xA kA xU kU zU C2 B2 T1 K1 HP HM HS1 S0 zA
 rw [ZA.out] at *
 try rw [HU.out]
 clear HU ZA
 generalize w2.heap.size=X at F ⊢
 generalize W.heap.size=p at F ⊢
 generalize w1.heap.size=lo at F
 have h1:=F.out.rp
 have h2:=F.out.pl
 have h3:=F.out.lx
 have n0:¬ X=w.heap.size:=by omega
 have n0':¬ w.heap.size=X:=by omega
 have n1:¬ X+1=w.heap.size:=by omega
 have n1':¬ w.heap.size=X+1:=by omega
 have n2:¬ X=w.heap.size+1:=by omega
 have n2':¬ w.heap.size+1=X:=by omega
 have n3:¬ X+1=w.heap.size+1:=by omega
 have n3':¬ w.heap.size+1=X+1:=by omega
 clear h1 h2 h3
 obtain ⟨b0,b1,-,bz⟩:=F.out.x
 obtain ⟨⟨-,m0,m1,m2,m3⟩,-⟩:=F.out.y
 have D1:Hid (Jb w U.drew p s n c w.heap.size X lo s0 s1 c0 c1 P q D):=F.out.grow ((Below.refl _ _).drew)
 clear F
 go_region_held3 (fun w'=>w'.cell? ⟨X,0,none⟩=some (.slice s0 P.caps.length c0)∧w'.cell? ⟨X,1,none⟩=some (.slice s1 P.bods.length c1)∧w'.cell? ⟨X+1,0,none⟩=some (.slice q.s1 D.codes.length q.c1)∧w'.cell? ⟨X+1,1,none⟩=some (.slice q.s2 D.cores.length q.c2)∧w'.cell? ⟨X+1,2,none⟩=some (.slice q.s3 D.mem.length q.c3)∧w'.cell? ⟨X+1,3,none⟩=some (.slice q.s4 D.tr.length q.c4)) (go_keep) (first | (go_at_call 11;with_reducible refine (D2.out.below 12 (by omega) (by omega)).mono ?_;rintro e w6 ⟨u,rfl,D3⟩;have x0u:=D3.out.x.c0;have x1u:=D3.out.x.c1;have y0u:=D3.out.y.x.c0;have y1u:=D3.out.y.x.c1;have y2u:=D3.out.y.x.c2;have y3u:=D3.out.y.x.c3;have r0:=D3.out.t.a.c0;have r1:=D3.out.t.a.c1;have rz:=D3.out.t.a.fz;have rl:=D3.out.t.a.z;have t0:=D3.out.t.b.x.c0;have t1:=D3.out.t.b.x.c1;have t2:=D3.out.t.b.x.c2;have t3:=D3.out.t.b.x.c3;have tz:=D3.out.t.b.fz;have tl:=D3.out.t.b.x.z) | (go_at_call 11;with_reducible refine (D1.out.below 5 (by omega) (by omega)).mono ?_;rintro e w5 ⟨y,rfl,D2⟩;have x0y:=D2.out.x.c0;have x1y:=D2.out.x.c1;have y0y:=D2.out.y.x.c0;have y1y:=D2.out.y.x.c1;have y2y:=D2.out.y.x.c2;have y3y:=D2.out.y.x.c3) | fail)
 all_goals
  obtain ⟨Y,hY,py,e0,e1,e2,e3,e4,e5⟩:=D3.out.t.put (.slice s0 P.caps.length c0) (.slice s1 P.bods.length c1) (.slice q.s1 D.codes.length q.c1) (.slice q.s2 D.cores.length q.c2) (.slice q.s3 D.mem.length q.c3) (.slice q.s4 D.tr.length q.c4)
  have PY:=hidM1 (D3.out.fin py)
  have PD:=hidM1 (D3.out.fin py.drew)
  rw [hY]
  clear hY py x0u x1u y0u y1u y2u y3u r0 r1 rz rl t0 t1 t2 t3 tz tl x0y x1y y0y y1y y2y y3y b0 b1 bz m0 m1 m2 m3 D1 D2 D3
  go_wp2
  refine bodyPost_ret (v:=.tuple #[.agg #[.slice s0 P.caps.length c0,.slice s1 P.bods.length c1],.agg #[.slice q.s1 D.codes.length q.c1,.slice q.s2 D.cores.length q.c2,.slice q.s3 D.mem.length q.c3,.slice q.s4 D.tr.length q.c4],.int .i64 (IntKind.i64.wrap (y - IntKind.i64.wrap (u.tdiv 11)))]) ?_ rfl ⟨s0,s1,c0,c1,P,q,D,_,rfl,?_⟩
  ·simp [results,Tryz.results5,go_sem,e0,e1,e2,e3,e4,e5]
  ·first
    | exact ⟨PY.out.1,PY.out.2.1,FP.out,PB.out,MZ.out,PY.out.2.2⟩
    | exact ⟨PD.out.1,PD.out.2.1,FP.out,PB.out,MZ.out,PD.out.2.2⟩
end
section
set_option linter.unusedSimpArgs false
set_option linter.unusedVariables false
set_option maxRecDepth 100000
open Go.RowKit
end
section
set_option linter.unusedSimpArgs false
set_option linter.unusedVariables false
set_option maxRecDepth 100000
open Go.RowKit
end
section
set_option linter.unusedSimpArgs false
set_option linter.unusedVariables false
set_option maxRecDepth 100000
open Go.RowKit
end
section
set_option linter.unusedSimpArgs false
set_option linter.unusedVariables false
set_option maxRecDepth 100000
open Go.RowKit
end
section
set_option linter.unusedSimpArgs false
set_option linter.unusedVariables false
set_option maxRecDepth 100000
open Go.RowKit
end
section
set_option linter.unusedSimpArgs false
set_option linter.unusedVariables false
set_option maxRecDepth 100000
open Go.RowKit
end
end Go.Proofs.YtkhjhibigldcgaaGreat
