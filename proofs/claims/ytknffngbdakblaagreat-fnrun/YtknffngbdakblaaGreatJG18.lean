/- l4DrawRun: a program that is right and a source that it has come to by drawn steps. Conditions: the cursor and its bytes lie in memory as the reading says. l1Spoil: a place is perhaps spoiled. Conditions: the cursor and its bytes lie in memory as the reading says. Rows of places that a draw makes and grows: as long as every cell is a number they read as a list of places. No condition. -/
import Derived.Test.YtknffngbdakblaaGreatJG00
import Derived.Test.YtknffngbdakblaaGreatJG11
import Derived.Test.YtknffngbdakblaaGreatJG12
import Derived.Test.YtknffngbdakblaaGreatJG08
import Derived.Test.YtknffngbdakblaaGreatJG09
import Derived.Test.YtknffngbdakblaaGreatJProgOk
import Derived.Test.YtknffngbdakblaaGreatJG01
import Derived.Test.YtknffngbdakblaaGreatJG17
import Derived.Test.YtknffngbdakblaaGreatJG16
import Derived.Test.YtknffngbdakblaaGreatJDraw2
import Derived.Test.YtknffngbdakblaaGreatJDrawBodyR
import Derived.Deep.AppendLies
import Derived.Deep.Slices
import Derived.Laws.OwnMore
namespace Go.Proofs.YtknffngbdakblaaGreat
section
set_option linter.unusedSimpArgs false
set_option linter.unusedVariables false
set_option maxRecDepth 100000
open Go.RowKit
theorem BoxA.but {X Y:World} {p:Option Nat} {cu:Nat} (h:BoxA X p) (hb:But cu X Y) (hp:∀ b,p=some b→b≠cu):BoxA Y p:=by
 cases p with
 | none=>trivial
 | some p=>
  have e:=hb.block p h.2.lt (hp p rfl)
  exact ⟨h.1.keep e hb.size,h.2.same e⟩
def Rch (pd:PD) (D:SD):Prop:=∃ ys:List Int,D=ys.foldl (stepSb pd) (newA pd)
theorem rch_new (pd:PD):Rch pd (newA pd):=⟨[],rfl⟩
theorem Rch.step {pd:PD} {D:SD} (h:Rch pd D) (y:Int):Rch pd (stepSb pd D y):=by
 obtain ⟨ys,rfl⟩:=h
 exact ⟨ys++[y],by rw [List.foldl_append];rfl⟩
def CutDx104 (wr:World) (cu:Nat) (s:Option Addr) (n c:Nat) (pd:PD) (Y:SD) (m:Nat) (s9 s10:Value) (wc:World):Prop:=∃ (yy:Int) (bo:Nat) (f1:Option Addr) (h1:Nat) (f2:Option Addr) (h2:Nat) (f3:Option Addr) (h3:Nat),s9=.pointer (some ⟨bo,0,none⟩)∧s10=.int .i64 (stepKb pd Y yy)∧0≤yy∧yy < m∧wr.heap.size≤bo∧BoF bo wc (.slice f1 (stepSb pd Y yy).ths.length h1) (.slice f2 (stepSb pd Y yy).chs.length h2) (.slice f3 (stepSb pd Y yy).tr.length h3)∧(∃ L1 L2,OwnS wc wr.heap.size (.slice f1 (stepSb pd Y yy).ths.length h1) (.slice f2 (stepSb pd Y yy).chs.length h2) (.slice f3 (stepSb pd Y yy).tr.length h3) L1 L2 (stepSb pd Y yy))∧But cu wr wc∧CB wc cu s n c
theorem cutD_new {wr wM:World} {cu n c m:Nat} {s:Option Addr} {pd:PD} {Y:SD} {yy:Int} {f1 f2 f3:Option Addr} {h1 h2 h3:Nat} (q:∃ L1 L2,OwnS wM wr.heap.size (.slice f1 (stepSb pd Y yy).ths.length h1) (.slice f2 (stepSb pd Y yy).chs.length h2) (.slice f3 (stepSb pd Y yy).tr.length h3) L1 L2 (stepSb pd Y yy)) (i0:0≤yy) (i1:yy < m) (kk:But cu wr wM) (hc:CB wM cu s n c):CutDx104 wr cu s n c pd Y m (.pointer (some ⟨wM.heap.size,0,none⟩)) (.int .i64 (stepKb pd Y yy)) (wM.alloc (.cells #[.slice f1 (stepSb pd Y yy).ths.length h1,.slice f2 (stepSb pd Y yy).chs.length h2,.slice f3 (stepSb pd Y yy).tr.length h3] 32)):=by
 obtain ⟨Z,hZ,x,kZ,zZ⟩:=BoF.new wM (.slice f1 (stepSb pd Y yy).ths.length h1) (.slice f2 (stepSb pd Y yy).chs.length h2) (.slice f3 (stepSb pd Y yy).tr.length h3) 32
 rw [hZ]
 obtain ⟨L1,L2,o⟩:=q
 exact ⟨yy,wM.heap.size,f1,h1,f2,h2,f3,h3,rfl,rfl,i0,i1,kk.size,x,⟨L1,L2,o.keep (fun b _ h1=>kZ.block b h1)⟩,kk.trans (But.of_below kZ),hc.keep kZ⟩
theorem cutD_set {wr wM:World} {cu n c m bo:Nat} {s:Option Addr} {pd:PD} {Y:SD} {yy:Int} {f1 f2 f3:Option Addr} {h1 h2 h3:Nat} (b:BoF bo wM (.slice none 0 0) (.slice none 0 0) (.slice none 0 0)∧BxS wM bo) (hbo:wr.heap.size≤bo) (hcu:cu < wr.heap.size) (q:∃ L1 L2,OwnS wM wr.heap.size (.slice f1 (stepSb pd Y yy).ths.length h1) (.slice f2 (stepSb pd Y yy).chs.length h2) (.slice f3 (stepSb pd Y yy).tr.length h3) L1 L2 (stepSb pd Y yy)) (i0:0≤yy) (i1:yy < m) (kk:But cu wr wM) (hc:CB wM cu s n c):CutDx104 wr cu s n c pd Y m (.pointer (some ⟨bo,0,none⟩)) (.int .i64 (stepKb pd Y yy)) (((wM.setCell ⟨bo,0,none⟩ (.slice f1 (stepSb pd Y yy).ths.length h1)).setCell ⟨bo,1,none⟩ (.slice f2 (stepSb pd Y yy).chs.length h2)).setCell ⟨bo,2,none⟩ (.slice f3 (stepSb pd Y yy).tr.length h3)):=by
 have B:=b.2
 obtain ⟨L1,L2,o⟩:=q
 refine ⟨yy,bo,f1,h1,f2,h2,f3,h3,rfl,rfl,i0,i1,hbo,((b.1.set0 _).set1 _).set2 _,⟨L1,L2,((o.offB B).offB B.set).offB B.set.set⟩,?_,((hc.set (a:=⟨bo,0,none⟩) (by show cu < bo;omega)).set (a:=⟨bo,1,none⟩) (by show cu < bo;omega)).set (a:=⟨bo,2,none⟩) (by show cu < bo;omega)⟩
 exact ⟨kk.os,kk.tape,kk.output,by simpa using kk.size,fun k a d=>(Below.heap_setCell _ ⟨bo,2,none⟩ _ k (by show k≠bo;omega)).trans ((Below.heap_setCell _ ⟨bo,1,none⟩ _ k (by show k≠bo;omega)).trans ((Below.heap_setCell _ ⟨bo,0,none⟩ _ k (by show k≠bo;omega)).trans (kk.block k a d)))⟩
set_option maxRecDepth 100000 in
set_option maxHeartbeats 8000000 in
theorem drawRun_any (cu : Nat) (s : Option Addr) (n c : Nat) (w : World) (h : CB w cu s n c) :
  Calls Tryz.prog 40 #[.pointer (some ⟨cu,0,none⟩)] w fun e w'=>∃ (lo hi base:Nat) (p1 p2:Option Addr) (a1 a2:Nat) (pd:PD) (x1 x2 x3:Value) (D:SD) (L1 L2:List (Rec×Value)),e=.returned (.tuple #[.agg #[.slice p1 pd.caps.length a1,.slice p2 pd.bods.length a2],.agg #[x1,x2,x3]])∧ProgR w' lo hi p1 p2 pd∧OwnS w' base x1 x2 x3 L1 L2 D∧w.heap.size≤lo∧lo≤hi∧hi≤base∧base≤w'.heap.size∧SFits D∧(1≤pd.caps.length∧pd.caps.length≤3)∧(1≤pd.bods.length∧pd.bods.length≤4)∧CapsOk pd.caps∧BodsOk pd.bods pd.caps.length∧Rch pd D∧CB w' cu s n c∧But cu w w':=by
 have hp:=h.lt
 have H:=hidR h
 clear h
 go_enter Tryz.func40,Tryz.ntmps40
 go_wp2_with fail
 obtain ⟨W2,hW2⟩:∃ W,(w.alloc (.cells #[.slice none 0 0,.slice none 0 0] 27)).alloc (.cells #[.slice none 0 0,.slice none 0 0,.slice none 0 0] 32)=W:=⟨_,rfl⟩
 have k2:Below w.heap.size w W2:=by subst hW2;exact ((Below.refl _ _).alloc (Nat.le_refl _) _).alloc (by simp) _
 have z2:W2.heap.size=w.heap.size+2:=by subst hW2;simp
 have R2:Hid ((∀ j,j < 2→(W2.cell? ⟨w.heap.size,j,none⟩).isSome=true)∧(∀ j,W2.frozen? ⟨w.heap.size,j,none⟩=false)∧(∀ j,j < 3→(W2.cell? ⟨w.heap.size+1,j,none⟩).isSome=true)∧(∀ j,W2.frozen? ⟨w.heap.size+1,j,none⟩=false)):=by
  subst hW2
  refine ⟨fun j hj=>?_,fun j=>by simp [go_sem],fun j hj=>?_,fun j=>by simp [go_sem]⟩
  ·match j,hj with
   | 0,_=>simp [go_sem]
   | 1,_=>simp [go_sem]
  ·match j,hj with
   | 0,_=>simp [go_sem]
   | 1,_=>simp [go_sem]
   | 2,_=>simp [go_sem]
 rw [hW2]
 clear hW2
 refine (drawRight_ok cu s n c W2 (H.out.keep k2)).mono ?_
 rintro e w1 ⟨v0,v1,cs,bs,rfl,oN,oB,lc,lb,hco,hbo,hc1,hb1⟩
 obtain ⟨p1,a1,p2,a2,e0,e1,hpg⟩:=OwnB.prog (p:=⟨cs,bs⟩) oN oB
 simp only at e0 e1
 subst e0 e1
 obtain ⟨pd,hpd⟩:∃ pd:PD,pd=⟨cs,bs⟩:=⟨_,rfl⟩
 have ecs:cs=pd.caps:=by rw [hpd]
 have ebs:bs=pd.bods:=by rw [hpd]
 rw [← hpd] at hpg
 clear hpd
 subst ecs ebs
 have HG:=hidR hpg
 have HC1:=hidR hc1
 have HB1:=hidR ((But.of_below k2).trans hb1)
 have M1:=hidR hb1
 have s1:=hb1.size
 have PQ:Hid ((1≤pd.caps.length∧pd.caps.length≤3)∧(1≤pd.bods.length∧pd.bods.length≤4)∧CapsOk pd.caps∧BodsOk pd.bods pd.caps.length):=⟨lc,lb,hco,hbo⟩
 have FT:Hid (Fits pd):=⟨by omega,by omega,fun i hi=>by
  have:=(hbo (pd.bods.getD i []) (by rw [List.getD_eq_getElem?_getD,List.getElem?_eq_getElem hi];exact List.getElem_mem hi)).2
  omega⟩
 clear hpg hc1 hb1 oN oB hco hbo k2 H
 obtain ⟨WP,hWP⟩:∃ W,w1.alloc (.cells #[.slice p1 pd.caps.length a1,.slice p2 pd.bods.length a2] 27)=W:=⟨_,rfl⟩
 have kP:Below w1.heap.size w1 WP:=by subst hWP;exact (Below.refl _ _).alloc (Nat.le_refl _) _
 have zP:WP.heap.size=w1.heap.size+1:=by subst hWP;simp
 have c0:WP.cell? ⟨w1.heap.size,0,none⟩=some (.slice p1 pd.caps.length a1):=by subst hWP;simp [go_sem]
 have c1:WP.cell? ⟨w1.heap.size,1,none⟩=some (.slice p2 pd.bods.length a2):=by subst hWP;simp [go_sem]
 have SW:=hidR hWP
 clear hWP
 go_wp2_with fail
 try rw [SW.out]
 clear SW
 refine (specNew_any p1 p2 a1 a2 W2.heap.size w1.heap.size pd WP (HG.out.keep' (Keep.of_below kP (Nat.le_refl _))) (by omega) FT.out).mono ?_
 rintro e w2 ⟨u1,u2,u3,L1,L2,rfl,oS,hb2⟩
 generalize progB pd=pb
 obtain ⟨t1,d1,t2,d2,t3,d3,e1,e2,e3,-⟩:=oS.src
 subst e1 e2 e3
 have s2:=hb2.size
 obtain ⟨V,hV,bV,kV,zV⟩:=BoF.new w2 (.slice t1 (newA pd).ths.length d1) (.slice t2 (newA pd).chs.length d2) (.slice t3 (newA pd).tr.length d3) 32
 have xV:BxS V w2.heap.size:=by rw [← hV];exact BxS.new _ _
 have DV:Hid (DRx103 w V cu s n c w1.heap.size w2.heap.size W2.heap.size w1.heap.size WP.heap.size p1 p2 a1 a2 pd (.slice t1 (newA pd).ths.length d1) (.slice t2 (newA pd).chs.length d2) (.slice t3 (newA pd).tr.length d3) (newA pd)):=by
  have k12:Below w1.heap.size w1 V:=(kP.trans (hb2.mono (by omega))).trans (kV.mono (by omega))
  have kPV:Below WP.heap.size WP V:=hb2.trans (kV.mono (by omega))
  have B:∀ q,q < W2.heap.size→q≠cu→V.heap[q]? =W2.heap[q]? :=fun q a b=>(k12.block q (by omega)).trans (M1.out.block q a b)
  have C:∀ q j,q < W2.heap.size→q≠cu→V.cell? ⟨q,j,none⟩=W2.cell? ⟨q,j,none⟩:=fun q j a b=>World.cell?_of_block (w:=W2) (B q a b)
  have F:∀ q j,q < W2.heap.size→q≠cu→V.frozen? ⟨q,j,none⟩=W2.frozen? ⟨q,j,none⟩:=fun q j a b=>World.frozen?_of_block (w:=W2) (B q a b)
  obtain ⟨r1,r2,r3,r4⟩:=R2.out
  refine ⟨HC1.out.keep k12,HB1.out.trans (But.of_below k12),?_,?_,fun j=>(F _ _ (by omega) (by omega)).trans (r2 j),?_,?_,?_,fun j=>(F _ _ (by omega) (by omega)).trans (r4 j),(kPV.cell (p:=⟨w1.heap.size,0,none⟩) (by show w1.heap.size < _;omega)).trans c0,(kPV.cell (p:=⟨w1.heap.size,1,none⟩) (by show w1.heap.size < _;omega)).trans c1,bV,xV,HG.out.keep' (Keep.of_below k12 (Nat.le_refl _)),⟨L1,L2,oS.keep (fun k _ hk=>kV.block k hk)⟩,hp,by omega,by omega,Nat.le_refl _,by omega,by omega,bV.z⟩
  ·rw [C _ _ (by omega) (by omega)];exact r1 0 (by omega)
  ·rw [C _ _ (by omega) (by omega)];exact r1 1 (by omega)
  ·rw [C _ _ (by omega) (by omega)];exact r3 0 (by omega)
  ·rw [C _ _ (by omega) (by omega)];exact r3 1 (by omega)
  ·rw [C _ _ (by omega) (by omega)];exact r3 2 (by omega)
 have SV:=hidR hV
 clear hV bV xV kV oS hb2 c0 c1 kP HG HC1 HB1 M1 R2
 go_wp2_with fail
 try rw [SV.out]
 clear SV
 refine (below_cb cu s n c 60 V DV.out.cb (by omega) (by omega)).mono ?_
 rintro e w3 ⟨nn,rfl,n0,n1,hc3,hb3⟩
 have D3:=hidR (DV.out.step hc3 hb3)
 clear hc3 hb3 DV
 have oo:=D3.out.o2
 generalize hP:w1.heap.size=P at D3 ⊢
 generalize hS:w2.heap.size=S at D3 ⊢
 generalize hlo:W2.heap.size=lo at D3
 generalize hba:WP.heap.size=base at D3
 clear hP hS hlo hba s1 s2 zP zV z2 oo
 go_wp2_with fail
 go_loopw [8] (fun i wr=>∃ (k:Nat) (Y:SD) (x1 x2 x3:Value),(k:Int)≤nn∧i=.int .i64 k∧DRx103 w wr cu s n c P S lo P base p1 p2 a1 a2 pd x1 x2 x3 Y∧SFits Y∧Rch pd Y) (fun i _=>61 - (intOf i).toNat)
 case atStart=>exact ⟨0,_,_,_,_,by omega,rfl,D3.out,newA_fits pd FT.out,rch_new pd⟩
 case round=>
  obtain ⟨k,Y,x1v,x2v,x3v,hk,rfl,hd,hfy,hry⟩:=hrel
  obtain ⟨L1',L2',oY⟩:=hd.ow
  obtain ⟨x1,y1,x2,y2,x3,y3,e1,e2,e3,hsr⟩:=oY.src
  subst e1 e2 e3
  have HD:=hidR hd
  have HSR:=hidR hsr
  have HFY:=hidR hfy
  have HRY:=hidR hry
  have o1:=hd.o1
  have o2:=hd.o2
  have o4:=hd.o3
  have o5:=hd.o5
  have o6:=hd.o6
  have o7:=hd.o7
  have hcu:cu < wr.heap.size:=by omega
  clear hd oY hsr hfy hry D3
  by_cases hlt:(k:Int) < nn
  ·have RB:Hid (∀ X,Below wr.heap.size wr X→X.cell? ⟨P,0,none⟩=some (.slice p1 pd.caps.length a1)∧X.cell? ⟨P,1,none⟩=some (.slice p2 pd.bods.length a2)∧X.cell? ⟨S,0,none⟩=some (.slice x1 Y.ths.length y1)∧X.cell? ⟨S,1,none⟩=some (.slice x2 Y.chs.length y2)∧X.cell? ⟨S,2,none⟩=some (.slice x3 Y.tr.length y3)):=fun X hX=>⟨(hX.cell (p:=⟨P,0,none⟩) (by show P < _;omega)).trans HD.out.k0,(hX.cell (p:=⟨P,1,none⟩) (by show P < _;omega)).trans HD.out.k1,(hX.cell (p:=⟨S,0,none⟩) o7).trans HD.out.sb.c0,(hX.cell (p:=⟨S,1,none⟩) o7).trans HD.out.sb.c1,(hX.cell (p:=⟨S,2,none⟩) o7).trans HD.out.sb.c2⟩
   have RU:Hid (∀ wB,But cu wr wB→∀ X,Below wB.heap.size wB X→X.cell? ⟨P,0,none⟩=some (.slice p1 pd.caps.length a1)∧X.cell? ⟨P,1,none⟩=some (.slice p2 pd.bods.length a2)∧X.cell? ⟨S,0,none⟩=some (.slice x1 Y.ths.length y1)∧X.cell? ⟨S,1,none⟩=some (.slice x2 Y.chs.length y2)∧X.cell? ⟨S,2,none⟩=some (.slice x3 Y.tr.length y3)):=fun wB hB X hX=>by
    have hs:=hB.size
    have C:∀ q j,q < wr.heap.size→q≠cu→X.cell? ⟨q,j,none⟩=wr.cell? ⟨q,j,none⟩:=fun q j a b=>(hX.cell (p:=⟨q,j,none⟩) (by show q < _;omega)).trans (hB.cell (p:=⟨q,j,none⟩) a b)
    exact ⟨(C _ _ (by omega) (by omega)).trans HD.out.k0,(C _ _ (by omega) (by omega)).trans HD.out.k1,(C _ _ o7 (by omega)).trans HD.out.sb.c0,(C _ _ o7 (by omega)).trans HD.out.sb.c1,(C _ _ o7 (by omega)).trans HD.out.sb.c2⟩
   have RX:Hid (∀ X,But cu wr X→X.cell? ⟨P,0,none⟩=some (.slice p1 pd.caps.length a1)∧X.cell? ⟨P,1,none⟩=some (.slice p2 pd.bods.length a2)∧X.cell? ⟨S,0,none⟩=some (.slice x1 Y.ths.length y1)∧X.cell? ⟨S,1,none⟩=some (.slice x2 Y.chs.length y2)∧X.cell? ⟨S,2,none⟩=some (.slice x3 Y.tr.length y3)):=fun X hB=>RU.out X hB X (Below.refl _ _)
   have lb:=PQ.out.2.1
   have CB1:Hid (∀ (X0:World) (pB:Option Nat),Below wr.heap.size wr X0→BoxA X0 pB→(∀ b,pB=some b→wr.heap.size≤b)→Calls Tryz.prog 25 #[.pointer (some ⟨cu,0,none⟩),.int .i64 pd.bods.length] X0 fun e w'=>∃ yy:Int,e=.returned (.int .i64 yy)∧0≤yy∧yy < pd.bods.length∧Hid (CB w' cu s n c)∧Hid (But cu wr w')∧Hid (BoxA w' pB)∧Hid (∀ X,Below w'.heap.size w' X→X.cell? ⟨P,0,none⟩=some (.slice p1 pd.caps.length a1)∧X.cell? ⟨P,1,none⟩=some (.slice p2 pd.bods.length a2)∧X.cell? ⟨S,0,none⟩=some (.slice x1 Y.ths.length y1)∧X.cell? ⟨S,1,none⟩=some (.slice x2 Y.chs.length y2)∧X.cell? ⟨S,2,none⟩=some (.slice x3 Y.tr.length y3))∧w'.cell? ⟨P,0,none⟩=some (.slice p1 pd.caps.length a1)∧w'.cell? ⟨P,1,none⟩=some (.slice p2 pd.bods.length a2)∧w'.cell? ⟨S,0,none⟩=some (.slice x1 Y.ths.length y1)∧w'.cell? ⟨S,1,none⟩=some (.slice x2 Y.chs.length y2)∧w'.cell? ⟨S,2,none⟩=some (.slice x3 Y.tr.length y3)):=fun X0 pB hX hbx hpb=>(below_cb cu s n c pd.bods.length X0 (HD.out.cb.keep hX) (by omega) (by omega)).mono fun e w' ⟨yy,he,i0,i1,hc,hb⟩=>by
    have hb':=(But.of_below (g:=cu) hX).trans hb
    exact ⟨yy,he,i0,i1,hc,hb',hbx.but hb (fun b e=>by have:=hpb b e;omega),RU.out w' hb',RU.out w' hb' w' (Below.refl _ _)⟩
   have CT:Hid (∀ (wB:World) (yy:Int) (X0:World) (pB:Option Nat),But cu wr wB→CB wB cu s n c→Below wB.heap.size wB X0→BoxA X0 pB→Calls Tryz.prog 31 #[.agg #[.slice p1 pd.caps.length a1,.slice p2 pd.bods.length a2],.agg #[.slice x1 Y.ths.length y1,.slice x2 Y.chs.length y2,.slice x3 Y.tr.length y3],.int .i64 yy] X0 fun e w'=>∃ (f1:Option Addr) (h1:Nat) (f2:Option Addr) (h2:Nat) (f3:Option Addr) (h3:Nat),e=.returned (.tuple #[.agg #[.slice f1 (stepSb pd Y yy).ths.length h1,.slice f2 (stepSb pd Y yy).chs.length h2,.slice f3 (stepSb pd Y yy).tr.length h3],.int .i64 (stepKb pd Y yy)])∧Below wB.heap.size wB w'∧Hid (∃ L1 L2,OwnS w' wr.heap.size (.slice f1 (stepSb pd Y yy).ths.length h1) (.slice f2 (stepSb pd Y yy).chs.length h2) (.slice f3 (stepSb pd Y yy).tr.length h3) L1 L2 (stepSb pd Y yy))∧Hid (BoxA w' pB)∧Hid (But cu wr w')∧Hid (CB w' cu s n c)∧w'.cell? ⟨P,0,none⟩=some (.slice p1 pd.caps.length a1)∧w'.cell? ⟨P,1,none⟩=some (.slice p2 pd.bods.length a2)∧w'.cell? ⟨S,0,none⟩=some (.slice x1 Y.ths.length y1)∧w'.cell? ⟨S,1,none⟩=some (.slice x2 Y.chs.length y2)∧w'.cell? ⟨S,2,none⟩=some (.slice x3 Y.tr.length y3)):=fun wB yy X0 pB hB hcB hX hbx=>by
    have hK:But cu wr X0:=hB.trans (But.of_below hX)
    have hs:=hK.size
    refine (specStep_any p1 p2 x1 x2 x3 a1 a2 y1 y2 y3 lo P base wr.heap.size pd Y yy X0 (HD.out.pg.keep' (fun q a b=>hK.block q (by omega) (by omega))) (HSR.out.keep (fun q a b=>hK.block q b (by omega))) (by omega) (by omega) FT.out HFY.out).mono fun e w' hq=>?_
    obtain ⟨f1,h1,f2,h2,f3,h3,L1,L2,he,ho,hb2⟩:=hq
    have kB:Below wB.heap.size wB w':=hX.trans (hb2.mono hX.size)
    have hK2:But cu wr w':=hB.trans (But.of_below kB)
    exact ⟨f1,h1,f2,h2,f3,h3,he,kB,⟨L1,L2,ho.low hs⟩,hbx.keep hb2,hK2,hcB.keep kB,RU.out wB hB w' kB⟩
   obtain ⟨g0,g1,g2,g3,g4⟩:=RB.out wr (Below.refl _ _)
   have kD:Below wr.heap.size wr wr.drew:=Below.drew (Below.refl _ _)
   have hdr:∀ X:World,X.drew.heap.size=X.heap.size:=fun _=>rfl
   go_upto_region 7 with fail
   go_cut [9,10] (fun s9 s10 wx=>CutDx104 wr cu s n c pd Y pd.bods.length s9 s10 wx)
   case first=>
    go_region_held3 (fun w'=>w'.cell? ⟨P,0,none⟩=some (.slice p1 pd.caps.length a1)∧w'.cell? ⟨P,1,none⟩=some (.slice p2 pd.bods.length a2)∧w'.cell? ⟨S,0,none⟩=some (.slice x1 Y.ths.length y1)∧w'.cell? ⟨S,1,none⟩=some (.slice x2 Y.chs.length y2)∧w'.cell? ⟨S,2,none⟩=some (.slice x3 Y.tr.length y3)) (first | (refine RB.out _ ?_;(repeat' (first | with_reducible exact kD | with_reducible exact Below.refl _ _ | with_reducible refine Below.drew ?_ | with_reducible refine Below.alloc ?_ (by first | omega | exact Nat.le_refl _ | (simp [hdr];done) | (simp [hdr];omega)) _ | with_reducible refine Below.setCell ?_ (by first | omega | exact Nat.le_refl _ | (simp [hdr];done) | (simp [hdr];omega)) _));done) | (refine RBB.out _ ?_;(repeat' (first | with_reducible exact kC | with_reducible exact kB | with_reducible exact Below.refl _ _ | with_reducible refine Below.drew ?_ | with_reducible refine Below.alloc ?_ (by first | omega | exact Nat.le_refl _ | (simp [hdr];done) | (simp [hdr];omega)) _ | with_reducible refine Below.setCell ?_ (by first | omega | exact Nat.le_refl _ | (simp [hdr];done) | (simp [hdr];omega)) _));done) | (refine RX.out _ ?_;(repeat' (first | with_reducible exact HUC.out | with_reducible exact HBU.out | with_reducible refine But.alloc ?_ _ | with_reducible refine but_set1 ?_ (by first | omega | exact Nat.le_refl _ | (simp [hdr];done) | (simp [hdr];omega))));done) | fail) (first | (go_at_call 25;with_reducible refine (CB1.out _ _ (by repeat' (first | with_reducible exact kD | with_reducible exact Below.refl _ _ | with_reducible refine Below.drew ?_ | with_reducible refine Below.alloc ?_ (by first | omega | exact Nat.le_refl _ | (simp [hdr];done) | (simp [hdr];omega)) _ | with_reducible refine Below.setCell ?_ (by first | omega | exact Nat.le_refl _ | (simp [hdr];done) | (simp [hdr];omega)) _)) (by first | with_reducible exact boxAD (boxA0 _) | with_reducible exact boxA0 _ | with_reducible exact boxAN _) (by intro b e;first | (cases e;done) | (injection e with e;subst e;first | exact Nat.le_refl _ | (simp [hdr];done) | (simp [hdr];omega)))).mono ?_;rintro e wB ⟨yy,rfl,yy0,yy1,HCB,HBU,HBB,RBB,yC0,yC1,yC2,yC3,yC4⟩;have kB:Below wB.heap.size wB wB:=Below.refl _ _;have zB:=HBU.out.size) | (go_at_call 31;with_reducible refine (CT.out wB yy _ _ HBU.out HCB.out (by repeat' (first | with_reducible exact kC | with_reducible exact kB | with_reducible exact Below.refl _ _ | with_reducible refine Below.drew ?_ | with_reducible refine Below.alloc ?_ (by first | omega | exact Nat.le_refl _ | (simp [hdr];done) | (simp [hdr];omega)) _ | with_reducible refine Below.setCell ?_ (by first | omega | exact Nat.le_refl _ | (simp [hdr];done) | (simp [hdr];omega)) _)) (by first | with_reducible exact HBB.out | with_reducible exact boxAD (boxA0 _) | with_reducible exact boxA0 _ | with_reducible exact boxAN _)).mono ?_;rintro e wC ⟨f1,h1,f2,h2,f3,h3,rfl,kC,OC,HBC,HUC,HCC,zC0,zC1,zC2,zC3,zC4⟩;have zC:=kC.size;(try obtain ⟨⟨b0',b1',b2',bf',b9⟩,-⟩:=boxAS HBC.out)) | fail)
    all_goals
     go_wp2_with fail
     go_meet
     first
      | with_reducible exact cutD_new OC.out yy0 yy1 HUC.out HCC.out
      | with_reducible exact cutD_set (boxAS HBC.out) (by first | exact Nat.le_refl _ | omega | (simp [hdr];done) | (simp [hdr];omega)) hcu OC.out yy0 yy1 HUC.out HCC.out
   case rest=>
    obtain ⟨yy,bo,f1,h1,f2,h2,f3,h3,rfl,rfl,i0,i1,hbo,hbx,⟨N1,N2,hon⟩,hbut,hcb⟩:=hcut
    obtain ⟨w8,hw8⟩:∃ z,z=wc:=⟨_,rfl⟩
    subst hw8
    have D8:=hidR (HD.out.step hcb hbut)
    have HON:=hidR hon
    have HBX:=hidR hbx
    have F8:=hidR (stepSb_fits (p:=pd) HFY.out yy)
    have R8:=hidR (HRY.out.step yy)
    have z8:=hbut.size
    have bz:=hbx.z
    clear hcb hbut hon hbx g0 g1 g2 g3 g4 kD RB RU RX CB1 CT
    by_cases hK:stepKb pd Y yy=0
    ·obtain ⟨m0,m1,m2,mf,mz⟩:=D8.out.sb
     obtain ⟨n0',n1',n2',nf,nz⟩:=HBX.out
     have P8:=hidR (D8.out.put (HON.out.low (by omega)))
     rw [hK]
     clear hK
     go_wp2
     go_roundw
     case rel=>exact ⟨k+1,_,_,_,_,by omega,by go_num,P8.out,F8.out,R8.out⟩
     case measure=>simp [intOf];omega
    ·have hK0:(stepKb pd Y yy==0)=false:=by simpa using hK
     generalize stepKb pd Y yy=KK at hK0
     clear hK
     go_wp2
     go_roundw
     case rel=>exact ⟨k+1,Y,_,_,_,by omega,by go_num,D8.out,HFY.out,HRY.out⟩
     case measure=>simp [intOf];omega
  ·obtain ⟨m0,m1,m2,mf,mz⟩:=HD.out.sb
   have k0:=HD.out.k0
   have k1:=HD.out.k1
   obtain ⟨q0,g0⟩:=Option.isSome_iff_exists.1 HD.out.r0
   obtain ⟨q1,g1⟩:=Option.isSome_iff_exists.1 HD.out.r1
   obtain ⟨q2,g2⟩:=Option.isSome_iff_exists.1 HD.out.t0
   obtain ⟨q3,g3⟩:=Option.isSome_iff_exists.1 HD.out.t1
   obtain ⟨q4,g4⟩:=Option.isSome_iff_exists.1 HD.out.t2
   have fr:=HD.out.fr
   have ft:=HD.out.ft
   have n1':¬ P=w.heap.size:=by omega
   have n2':¬ P=w.heap.size+1:=by omega
   have n3':¬ S=w.heap.size:=by omega
   have n4':¬ S=w.heap.size+1:=by omega
   have n5':¬ w.heap.size=P:=by omega
   have n6':¬ w.heap.size+1=P:=by omega
   have n7':¬ w.heap.size=S:=by omega
   have n8':¬ w.heap.size+1=S:=by omega
   go_wp2_with fail
   go_region
   all_goals
    obtain ⟨V5,hV5,r1,⟨M1,M2,r2⟩,r3,r4,r5⟩:=HD.out.fin (.slice p1 pd.caps.length a1) (.slice p2 pd.bods.length a2) (.slice x1 Y.ths.length y1) (.slice x2 Y.chs.length y2) (.slice x3 Y.tr.length y3)
    have e0:V5.cell? ⟨w.heap.size,0,none⟩=some (.slice p1 pd.caps.length a1):=by rw [← hV5];simp [go_sem,g0,g1,g2,g3,g4]
    have e1:V5.cell? ⟨w.heap.size,1,none⟩=some (.slice p2 pd.bods.length a2):=by rw [← hV5];simp [go_sem,g0,g1,g2,g3,g4]
    have e2:V5.cell? ⟨w.heap.size+1,0,none⟩=some (.slice x1 Y.ths.length y1):=by rw [← hV5];simp [go_sem,g0,g1,g2,g3,g4]
    have e3:V5.cell? ⟨w.heap.size+1,1,none⟩=some (.slice x2 Y.chs.length y2):=by rw [← hV5];simp [go_sem,g0,g1,g2,g3,g4]
    have e4:V5.cell? ⟨w.heap.size+1,2,none⟩=some (.slice x3 Y.tr.length y3):=by rw [← hV5];simp [go_sem,g0,g1,g2,g3,g4]
    rw [hV5]
    have X1:=hidR r1
    have X2:=hidR r2
    have X3:=hidR r3
    have X4:=hidR r4
    clear hV5 r1 r2 r3 r4 g0 g1 g2 g3 g4 m0 m1 m2 k0 k1 fr ft
    go_wp2
    exact bodyPost_ret (v:=.tuple #[.agg #[.slice p1 pd.caps.length a1,.slice p2 pd.bods.length a2],.agg #[.slice x1 Y.ths.length y1,.slice x2 Y.chs.length y2,.slice x3 Y.tr.length y3]]) (by simp [results,Tryz.results40,go_sem,e0,e1,e2,e3,e4]) rfl ⟨lo,P,base,p1,p2,a1,a2,pd,_,_,_,Y,M1,M2,rfl,X1.out,X2.out,by omega,by omega,by omega,r5,HFY.out,PQ.out.1,PQ.out.2.1,PQ.out.2.2.1,PQ.out.2.2.2,HRY.out,X3.out,X4.out⟩
end
section
set_option linter.unusedSimpArgs false
set_option linter.unusedVariables false
set_option maxRecDepth 100000
open Go.RowKit
theorem Res.of_below {w w':World} {R B:Nat} (h:Res w R) (hb:Below B w w') (hR:R < B):Res w' R:=
 ⟨fun j hj=>by rw [hb.cell (p:=⟨R,j,none⟩) hR];exact h.1 j hj,fun j=>by rw [hb.frozen (p:=⟨R,j,none⟩) hR];exact h.2.1 j,by have:=hb.size;have:=h.2.2;omega⟩
/- five numbers in a block -/
def Has (w:World) (X:Nat) (o r a b m:Int):Prop:=w.cell? ⟨X,0,none⟩=some (.int .i64 o)∧w.cell? ⟨X,1,none⟩=some (.int .i64 r)∧w.cell? ⟨X,2,none⟩=some (.int .i64 a)∧w.cell? ⟨X,3,none⟩=some (.int .i64 b)∧w.cell? ⟨X,4,none⟩=some (.int .i64 m)
theorem Has.but {w w':World} {X p:Nat} {o r a b m:Int} (h:Has w X o r a b m) (hb:But p w w') (hX:X < w.heap.size) (hp:X≠p):Has w' X o r a b m:=
 ⟨(hb.cell (p:=⟨X,0,none⟩) hX hp).trans h.1,(hb.cell (p:=⟨X,1,none⟩) hX hp).trans h.2.1,(hb.cell (p:=⟨X,2,none⟩) hX hp).trans h.2.2.1,(hb.cell (p:=⟨X,3,none⟩) hX hp).trans h.2.2.2.1,(hb.cell (p:=⟨X,4,none⟩) hX hp).trans h.2.2.2.2⟩
set_option maxRecDepth 100000 in
set_option maxHeartbeats 4000000 in
theorem spoil_cb (p : Nat) (s : Option Addr) (n c : Nat) (o r a b m : Int) (w : World) (h : CB w p s n c) :
  Calls Tryz.prog 60 #[.pointer (some ⟨p,0,none⟩),.agg #[.int .i64 o,.int .i64 r,.int .i64 a,.int .i64 b,.int .i64 m]] w fun e w'=>∃ o r a b m:Int,e=.returned (.agg #[.int .i64 o,.int .i64 r,.int .i64 a,.int .i64 b,.int .i64 m])∧CB w' p s n c∧But p w w':=by
 have H0:Hid (CB ((w.alloc (.cells #[.int .i64 o,.int .i64 r,.int .i64 a,.int .i64 b,.int .i64 m] 85)).alloc (.cells #[.int .i64 0,.int .i64 0,.int .i64 0,.int .i64 0,.int .i64 0] 85)) p s n c):=(h.alloc _).alloc _
 have hp:=h.lt
 have B0:Hid (But p w ((w.alloc (.cells #[.int .i64 o,.int .i64 r,.int .i64 a,.int .i64 b,.int .i64 m] 85)).alloc (.cells #[.int .i64 0,.int .i64 0,.int .i64 0,.int .i64 0,.int .i64 0] 85))):=((But.refl _ _).alloc _).alloc _
 have R0:Hid (Res ((w.alloc (.cells #[.int .i64 o,.int .i64 r,.int .i64 a,.int .i64 b,.int .i64 m] 85)).alloc (.cells #[.int .i64 0,.int .i64 0,.int .i64 0,.int .i64 0,.int .i64 0] 85)) (w.heap.size+1)):=by
  have:=res_new (w.alloc (.cells #[.int .i64 o,.int .i64 r,.int .i64 a,.int .i64 b,.int .i64 m] 85)) (.int .i64 0) (.int .i64 0) (.int .i64 0) (.int .i64 0) (.int .i64 0) 85
  simp only [World.size_alloc] at this
  exact this
 have X0:Hid (Has ((w.alloc (.cells #[.int .i64 o,.int .i64 r,.int .i64 a,.int .i64 b,.int .i64 m] 85)).alloc (.cells #[.int .i64 0,.int .i64 0,.int .i64 0,.int .i64 0,.int .i64 0] 85)) w.heap.size o r a b m):=⟨by simp [go_sem],by simp [go_sem],by simp [go_sem],by simp [go_sem],by simp [go_sem]⟩
 have Y0:Hid (Res ((w.alloc (.cells #[.int .i64 o,.int .i64 r,.int .i64 a,.int .i64 b,.int .i64 m] 85)).alloc (.cells #[.int .i64 0,.int .i64 0,.int .i64 0,.int .i64 0,.int .i64 0] 85)) w.heap.size):=(res_new w (.int .i64 o) (.int .i64 r) (.int .i64 a) (.int .i64 b) (.int .i64 m) 85).of_below ((Below.refl _ _).alloc (Nat.le_refl _) _) (by simp)
 clear h
 go_enter Tryz.func60,Tryz.ntmps60
 go_wp2_with fail
 refine (below_cb p s n c 8 _ H0.out (by omega) (by omega)).mono ?_
 rintro e w1 ⟨t,rfl,t0,t1,hc,hb⟩
 have H1:Hid (CB w1 p s n c):=hc
 have B1:Hid (But p w w1):=B0.out.trans hb
 have R1:Hid (Res w1 (w.heap.size+1)):=R0.out.but hb (by omega)
 have X1:Hid (Has w1 w.heap.size o r a b m):=X0.out.but hb (by simp;omega) (by omega)
 have Y1:Hid (Res w1 w.heap.size):=Y0.out.but hb (by omega)
 have hz1:w.heap.size+1 < w1.heap.size:=R1.out.2.2
 clear hc hb H0 B0 R0 X0 Y0
 have ht:t=0∨t=1∨t=2∨t=3∨t=4∨(t=5∨t=6∨t=7):=by omega
 clear t0 t1
 rcases ht with rfl | rfl | rfl | rfl | rfl | ht
 ·go_wp2_with fail
  refine (below_cb p s n c 16 _ H1.out (by omega) (by omega)).mono ?_
  rintro e w2 ⟨x,rfl,x0,x1,hc,hb⟩
  have H2:Hid (CB w2 p s n c):=hc
  have B2:Hid (But p w w2):=B1.out.trans hb
  have R2:Hid (Res w2 (w.heap.size+1)):=R1.out.but hb (by omega)
  have X2:Hid (Has w2 w.heap.size o r a b m):=X1.out.but hb (by omega) (by omega)
  have Y2:Hid (Res w2 w.heap.size):=Y1.out.but hb (by omega)
  clear hc hb H1 B1 R1 X1 Y1
  obtain ⟨f0,f1,f2,f3,f4⟩:=X2.out
  have z:=Y2.out.2.1
  obtain ⟨u0,u1,u2,u3,u4,g0,g1,g2,g3,g4⟩:=R2.out.at
  have z':=R2.out.2.1
  go_wp2
  exact bodyPost_ret (v:=.agg #[.int .i64 (x - 1),.int .i64 r,.int .i64 a,.int .i64 b,.int .i64 m]) (by simp [results,Tryz.results60,go_sem,g0,g1,g2,g3,g4]) rfl ⟨_,_,_,_,_,rfl,(H2.out.set (a:=⟨w.heap.size,0,none⟩) hp).set5v (by omega),but_set5v (but_set1 B2.out (Nat.le_refl _)) (by omega)⟩
 ·go_wp2_with fail
  refine (below_cb p s n c 6 _ H1.out (by omega) (by omega)).mono ?_
  rintro e w2 ⟨x,rfl,x0,x1,hc,hb⟩
  have H2:Hid (CB w2 p s n c):=hc
  have B2:Hid (But p w w2):=B1.out.trans hb
  have R2:Hid (Res w2 (w.heap.size+1)):=R1.out.but hb (by omega)
  have X2:Hid (Has w2 w.heap.size o r a b m):=X1.out.but hb (by omega) (by omega)
  have Y2:Hid (Res w2 w.heap.size):=Y1.out.but hb (by omega)
  clear hc hb H1 B1 R1 X1 Y1
  obtain ⟨f0,f1,f2,f3,f4⟩:=X2.out
  have z:=Y2.out.2.1
  obtain ⟨u0,u1,u2,u3,u4,g0,g1,g2,g3,g4⟩:=R2.out.at
  have z':=R2.out.2.1
  go_wp2
  exact bodyPost_ret (v:=.agg #[.int .i64 o,.int .i64 (x - 1),.int .i64 a,.int .i64 b,.int .i64 m]) (by simp [results,Tryz.results60,go_sem,g0,g1,g2,g3,g4]) rfl ⟨_,_,_,_,_,rfl,(H2.out.set (a:=⟨w.heap.size,1,none⟩) hp).set5v (by omega),but_set5v (but_set1 B2.out (Nat.le_refl _)) (by omega)⟩
 ·go_wp2_with fail
  refine (below_cb p s n c 6 _ H1.out (by omega) (by omega)).mono ?_
  rintro e w2 ⟨x,rfl,x0,x1,hc,hb⟩
  have H2:Hid (CB w2 p s n c):=hc
  have B2:Hid (But p w w2):=B1.out.trans hb
  have R2:Hid (Res w2 (w.heap.size+1)):=R1.out.but hb (by omega)
  have X2:Hid (Has w2 w.heap.size o r a b m):=X1.out.but hb (by omega) (by omega)
  have Y2:Hid (Res w2 w.heap.size):=Y1.out.but hb (by omega)
  clear hc hb H1 B1 R1 X1 Y1
  obtain ⟨f0,f1,f2,f3,f4⟩:=X2.out
  have z:=Y2.out.2.1
  obtain ⟨u0,u1,u2,u3,u4,g0,g1,g2,g3,g4⟩:=R2.out.at
  have z':=R2.out.2.1
  go_wp2
  exact bodyPost_ret (v:=.agg #[.int .i64 o,.int .i64 r,.int .i64 (x - 1),.int .i64 b,.int .i64 m]) (by simp [results,Tryz.results60,go_sem,g0,g1,g2,g3,g4]) rfl ⟨_,_,_,_,_,rfl,(H2.out.set (a:=⟨w.heap.size,2,none⟩) hp).set5v (by omega),but_set5v (but_set1 B2.out (Nat.le_refl _)) (by omega)⟩
 ·go_wp2_with fail
  refine (below_cb p s n c 6 _ H1.out (by omega) (by omega)).mono ?_
  rintro e w2 ⟨x,rfl,x0,x1,hc,hb⟩
  have H2:Hid (CB w2 p s n c):=hc
  have B2:Hid (But p w w2):=B1.out.trans hb
  have R2:Hid (Res w2 (w.heap.size+1)):=R1.out.but hb (by omega)
  have X2:Hid (Has w2 w.heap.size o r a b m):=X1.out.but hb (by omega) (by omega)
  have Y2:Hid (Res w2 w.heap.size):=Y1.out.but hb (by omega)
  clear hc hb H1 B1 R1 X1 Y1
  obtain ⟨f0,f1,f2,f3,f4⟩:=X2.out
  have z:=Y2.out.2.1
  obtain ⟨u0,u1,u2,u3,u4,g0,g1,g2,g3,g4⟩:=R2.out.at
  have z':=R2.out.2.1
  go_wp2
  exact bodyPost_ret (v:=.agg #[.int .i64 o,.int .i64 r,.int .i64 a,.int .i64 (x - 1),.int .i64 m]) (by simp [results,Tryz.results60,go_sem,g0,g1,g2,g3,g4]) rfl ⟨_,_,_,_,_,rfl,(H2.out.set (a:=⟨w.heap.size,3,none⟩) hp).set5v (by omega),but_set5v (but_set1 B2.out (Nat.le_refl _)) (by omega)⟩
 ·go_wp2_with fail
  have kl:Below w1.heap.size w1 (w1.alloc (.cells #[.int .i64 (-1),.int .i64 0,.int .i64 3,.int .i64 23,.int .i64 24,.int .i64 1000000000,.int .i64 1000000001] 3)):=(Below.refl _ _).alloc (Nat.le_refl _) _
  refine (pick_cb p s n c w1.heap.size 7 [-1,0,3,23,24,1000000000,1000000001] _ (H1.out.keep kl) rfl (by simp) (by simp) (by simp) (by omega) (fun i hi=>by match i,hi with | 0,_=>simp [go_sem] | 1,_=>simp [go_sem] | 2,_=>simp [go_sem] | 3,_=>simp [go_sem] | 4,_=>simp [go_sem] | 5,_=>simp [go_sem] | 6,_=>simp [go_sem])).mono ?_
  rintro e w2 ⟨x,rfl,-,hc,hb⟩
  have H2:Hid (CB w2 p s n c):=hc
  have hb2:But p w1 w2:=(But.of_below kl).trans hb
  have B2:Hid (But p w w2):=B1.out.trans hb2
  have R2:Hid (Res w2 (w.heap.size+1)):=R1.out.but hb2 (by omega)
  have X2:Hid (Has w2 w.heap.size o r a b m):=X1.out.but hb2 (by omega) (by omega)
  have Y2:Hid (Res w2 w.heap.size):=Y1.out.but hb2 (by omega)
  clear hc hb hb2 kl H1 B1 R1 X1 Y1
  obtain ⟨f0,f1,f2,f3,f4⟩:=X2.out
  have z:=Y2.out.2.1
  obtain ⟨u0,u1,u2,u3,u4,g0,g1,g2,g3,g4⟩:=R2.out.at
  have z':=R2.out.2.1
  go_wp2
  exact bodyPost_ret (v:=.agg #[.int .i64 o,.int .i64 r,.int .i64 a,.int .i64 b,.int .i64 x]) (by simp [results,Tryz.results60,go_sem,g0,g1,g2,g3,g4]) rfl ⟨_,_,_,_,_,rfl,(H2.out.set (a:=⟨w.heap.size,4,none⟩) hp).set5v (by omega),but_set5v (but_set1 B2.out (Nat.le_refl _)) (by omega)⟩
 ·have n0:(t==0)=false:=by simp;omega
  have n1:(t==1)=false:=by simp;omega
  have n2:(t==2)=false:=by simp;omega
  have n3:(t==3)=false:=by simp;omega
  have n4:(t==4)=false:=by simp;omega
  clear ht
  obtain ⟨f0,f1,f2,f3,f4⟩:=X1.out
  have z:=Y1.out.2.1
  obtain ⟨u0,u1,u2,u3,u4,g0,g1,g2,g3,g4⟩:=R1.out.at
  have z':=R1.out.2.1
  go_wp2
  exact bodyPost_ret (v:=.agg #[.int .i64 o,.int .i64 r,.int .i64 a,.int .i64 b,.int .i64 m]) (by simp [results,Tryz.results60,go_sem,g0,g1,g2,g3,g4]) rfl ⟨_,_,_,_,_,rfl,H1.out.set5v (by omega),but_set5v B1.out (by omega)⟩
end
section
set_option linter.unusedSimpArgs false
set_option linter.unusedVariables false
set_option maxRecDepth 100000
open Go.RowKit Go.Deep
def AllInt (xs:List Value):Prop:=∀ u∈xs,∃ z:Int,u=.int .i64 z
/- v is a row of n places in a block from base on -/
def OwnI (w:World) (base:Nat) (v:Value) (n:Nat):Prop:=∃ xs,w.ownsRow base 85 5 v n xs∧AllInt xs
/- v is a row of n numbers -/
def OwnC (w:World) (base:Nat) (v:Value) (n:Nat):Prop:=∃ xs,w.ownsRow base 3 1 v n xs∧AllInt xs
theorem AllInt.set {xs:List Value} (h:AllInt xs) (k:Nat) (z:Int):AllInt (xs.set k (.int .i64 z)):=by
 intro u hu
 rcases List.mem_or_eq_of_mem_set hu with h1 | h1
 ·exact h u h1
 ·exact ⟨z,h1⟩
theorem AllInt.append {xs ys:List Value} (h:AllInt xs) (h':AllInt ys):AllInt (xs++ys):=by
 intro u hu
 rcases List.mem_append.1 hu with h1 | h1
 ·exact h u h1
 ·exact h' u h1
theorem OwnI.but {w w':World} {base n p:Nat} {v:Value} (h:OwnI w base v n) (hb:But p w w') (hp:p < base):OwnI w' base v n:=by
 obtain ⟨xs,h1,h2⟩:=h
 exact ⟨xs,own_block h1 (fun k h3 h4=>hb.block k h4 (by omega)),h2⟩
theorem OwnC.but {w w':World} {base n p:Nat} {v:Value} (h:OwnC w base v n) (hb:But p w w') (hp:p < base):OwnC w' base v n:=by
 obtain ⟨xs,h1,h2⟩:=h
 exact ⟨xs,own_block h1 (fun k h3 h4=>hb.block k h4 (by omega)),h2⟩
theorem OwnI.keep {w w':World} {base n:Nat} {v:Value} (h:OwnI w base v n) (hb:Below w.heap.size w w'):OwnI w' base v n:=by
 obtain ⟨xs,h1,h2⟩:=h
 exact ⟨xs,own_block h1 (fun k h3 h4=>hb.block k h4),h2⟩
theorem OwnC.keep {w w':World} {base n:Nat} {v:Value} (h:OwnC w base v n) (hb:Below w.heap.size w w'):OwnC w' base v n:=by
 obtain ⟨xs,h1,h2⟩:=h
 exact ⟨xs,own_block h1 (fun k h3 h4=>hb.block k h4),h2⟩
theorem heap_set {w:World} {g k:Nat} {v:Value} {cur:Array Value} {e:TypeId} {fr:Nat×Nat} (h:w.heap[g]? =some (.cells cur e fr)):(w.setCell ⟨g,k,none⟩ v).heap[g]? =some (.cells (cur.setIfInBounds k v) e fr):=by
 simp only [World.setCell,Array.getElem?_modify,h]
 simp
theorem OwnI.set {w:World} {base n g' k:Nat} {v:Value} (h:OwnI w base v n) (z:Int):OwnI (w.setCell ⟨g',k,none⟩ (.int .i64 z)) base v n:=by
 obtain ⟨xs,⟨h1,h2⟩,h3⟩:=h
 rcases h2 with h2 | ⟨g,cap,cur,rfl,hb,hg,hr⟩
 ·exact ⟨xs,⟨h1,.inl h2⟩,h3⟩
 ·by_cases e:g=g'
  ·subst e
   have:=(World.ownsRow.stored (w:=w) (base:=base) (e:=85) (size:=5) (g:=g) (n:=n) (cap:=cap) (xs:=xs) ⟨h1,.inr ⟨g,cap,cur,rfl,hb,hg,hr⟩⟩ k (.int .i64 z)).1
   exact ⟨_,this,h3.set k z⟩
  ·refine ⟨xs,⟨h1,.inr ⟨g,cap,cur,rfl,hb,?_,hr⟩⟩,h3⟩
   rw [Below.heap_setCell w ⟨g',k,none⟩ _ g e]
   exact hg
theorem own_cell {w:World} {base size n g cap k:Nat} {e:TypeId} {xs:List Value} (h:w.ownsRow base e size (.slice (some ⟨g,0,none⟩) n cap) n xs) (hk:k < n * size):∃ u,w.cell? ⟨g,k,none⟩=some u∧u∈xs∧w.frozen? ⟨g,k,none⟩=false∧base≤g∧g < w.heap.size:=by
 obtain ⟨h1,h2⟩:=h
 rcases h2 with ⟨h2,-⟩ | ⟨g',cap',cur,hv,hb,hg,hnc,hcm,hcs,htake⟩
 ·cases h2
 ·simp only [Value.slice.injEq,Option.some.injEq,Addr.mk.injEq,and_true,true_and] at hv
  obtain ⟨rfl,rfl⟩:=hv
  have hlt:g < w.heap.size:=by
   apply Classical.byContradiction
   intro hn
   rw [Array.getElem?_eq_none (by omega)] at hg
   cases hg
  have hkc:k < cur.size:=by
   rw [hcs]
   exact Nat.lt_of_lt_of_le hk (Nat.mul_le_mul_right _ hnc)
  refine ⟨cur[k],?_,?_,?_,hb,hlt⟩
  ·simp [World.cell?,hg,hkc]
  ·rw [← htake]
   have:(cur.toList.take (n * size))[k]? =some cur[k]:=by
    rw [List.getElem?_take,if_pos hk]
    simp [hkc]
   exact List.mem_of_getElem? this
  ·simp [World.frozen?,hg]
theorem OwnI.ins {w:World} {base n:Nat} {v:Value} (h:OwnI w base v n):∃ (s:Option Addr) (c:Nat) (l:List I5),v=.slice s l.length c∧l.length=n∧InsR w base w.heap.size s l:=by
 obtain ⟨xs,h1,h2⟩:=h
 rcases h1.2 with ⟨rfl,rfl⟩ | ⟨g,cap,cur,rfl,hb,hg,hr⟩
 ·exact ⟨none,0,[],rfl,rfl,.inl rfl⟩
 ·obtain ⟨Z,hZ⟩:=@choose_lt Int ⟨0⟩ (n * 5) (fun k z=>w.cell? ⟨g,k,none⟩=some (.int .i64 z)) (fun k hk=>by
   obtain ⟨u,h3,h4,-⟩:=own_cell h1 hk
   obtain ⟨z,rfl⟩:=h2 u h4
   exact ⟨z,h3⟩)
  refine ⟨some ⟨g,0,none⟩,cap,(List.range n).map fun i=>⟨Z (i * 5),Z (i * 5+1),Z (i * 5+2),Z (i * 5+3),Z (i * 5+4)⟩,by simp,by simp,?_⟩
  by_cases h0:n=0
  ·left;subst h0;rfl
  ·right
   obtain ⟨u,-,-,-,h5,h6⟩:=own_cell (k:=0) h1 (by omega)
   refine ⟨g,0,rfl,h5,h6,?_⟩
   intro i hi
   simp at hi
   have e:((List.range n).map fun i=>(⟨Z (i * 5),Z (i * 5+1),Z (i * 5+2),Z (i * 5+3),Z (i * 5+4)⟩:I5)).getD i z5=⟨Z (i * 5),Z (i * 5+1),Z (i * 5+2),Z (i * 5+3),Z (i * 5+4)⟩:=by simp [hi]
   rw [e,Nat.zero_add]
   exact ⟨hZ _ (by omega),hZ _ (by omega),hZ _ (by omega),hZ _ (by omega),hZ _ (by omega)⟩
theorem OwnC.ints {w:World} {base n:Nat} {v:Value} (h:OwnC w base v n):∃ (s:Option Addr) (c:Nat) (l:List Int),v=.slice s l.length c∧l.length=n∧IntsR w base w.heap.size s l:=by
 obtain ⟨xs,h1,h2⟩:=h
 rcases h1.2 with ⟨rfl,rfl⟩ | ⟨g,cap,cur,rfl,hb,hg,hr⟩
 ·exact ⟨none,0,[],rfl,rfl,.inl rfl⟩
 ·obtain ⟨Z,hZ⟩:=@choose_lt Int ⟨0⟩ n (fun k z=>w.cell? ⟨g,k,none⟩=some (.int .i64 z)) (fun k hk=>by
   obtain ⟨u,h3,h4,-⟩:=own_cell h1 (k:=k) (by omega)
   obtain ⟨z,rfl⟩:=h2 u h4
   exact ⟨z,h3⟩)
  refine ⟨some ⟨g,0,none⟩,cap,(List.range n).map Z,by simp,by simp,?_⟩
  by_cases h0:n=0
  ·left;subst h0;rfl
  ·right
   obtain ⟨u,-,-,-,h5,h6⟩:=own_cell (k:=0) h1 (by omega)
   refine ⟨g,0,rfl,h5,h6,?_⟩
   intro i hi
   simp at hi
   have e:((List.range n).map Z).getD i 0=Z i:=by simp [hi]
   rw [e,Nat.zero_add]
   exact hZ _ (by omega)
end
end Go.Proofs.YtknffngbdakblaaGreat
