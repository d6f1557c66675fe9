/- l9DrawMem: a memory and a row of rooms are drawn: a memory of a run, or any. Conditions: the cursor and its bytes lie in memory as the reading says. DrawBase and DrawChanIn: rooms, memories and a number are drawn. Conditions: the bytes of the draw lie in memory as the reading says. A box of three cells that may be written. No condition. -/
import Derived.Test.YtkhjhibigldcgaaLG00
import Derived.Test.YtkhjhibigldcgaaLProgOk
import Derived.Test.YtkhjhibigldcgaaLG07
import Derived.Test.YtkhjhibigldcgaaLG02
import Derived.Test.YtkhjhibigldcgaaLMixOp
import Derived.Test.YtkhjhibigldcgaaLG08
import Derived.Test.YtkhjhibigldcgaaLG03
import Derived.Test.YtkhjhibigldcgaaLG10
import Derived.Test.YtkhjhibigldcgaaLG09
import Derived.Test.YtkhjhibigldcgaaLG12
import Derived.Test.YtkhjhibigldcgaaLDrawM
import Derived.Test.YtkhjhibigldcgaaLDraw1
import Derived.Test.YtkhjhibigldcgaaLG23
import Derived.Test.YtkhjhibigldcgaaLDraw6
import Derived.Test.YtkhjhibigldcgaaLN9Ring
import Derived.Test.YtkhjhibigldcgaaLG04
namespace Go.Proofs.Ytkhjhibigldcgaa
section
set_option linter.unusedSimpArgs false
set_option linter.unusedVariables false
set_option maxRecDepth 100000
open Go.RowKit Go.Deep
structure J9 (w0 w:World) (p:Nat) (s:Option Addr) (n c R:Nat):Prop where
 cb:CBx158 w p s n c
 rb:BM w R (.slice none 0 0)
 but:But p w0 w
 r0:w0.heap.size=R
 pR:p < R
theorem J9.step {w0 w w':World} {p n c R:Nat} {s:Option Addr} (h:J9 w0 w p s n c R) (hc:CBx158 w' p s n c) (hb:But p w w'):J9 w0 w' p s n c R:=
 ⟨hc,h.rb.kept (hb.block R h.rb.lt (by have:=h.pR;omega)),h.but.trans hb,h.r0,h.pR⟩
theorem J9.bel {w0 w w':World} {p n c R:Nat} {s:Option Addr} (h:J9 w0 w p s n c R) (hb:Below w.heap.size w w'):J9 w0 w' p s n c R:=h.step (h.cb.keep hb) (But.of_below hb)
def Mem9 (w w':World) (p:Nat) (s:Option Addr) (n c:Nat) (sm sl:Option Addr) (m:List (List WD)) (l:List Int):Prop:=
 MemR w' w.heap.size w'.heap.size sm m∧IntsR w' w.heap.size w'.heap.size sl l∧m.length+szR m≤40000∧l.length≤9∧CBx158 w' p s n c∧But p w w'
theorem J9.fin {w0 w:World} {p n c R lo lo':Nat} {s sm sl:Option Addr} {m:List (List WD)} {l:List Int} {u:Value} (h:J9 w0 w p s n c R) (hm:MemR w lo w.heap.size sm m) (hl:IntsR w lo' w.heap.size sl l) (h1:R < lo) (h2:R < lo') (hz:m.length+szR m≤40000) (hn:l.length≤9):Mem9 w0 (w.setCell ⟨R,0,none⟩ u) p s n c sm sl m l:=by
 have h0:=h.r0
 have b:Below w0.heap.size w (w.setCell ⟨R,0,none⟩ u):=(Below.refl _ _).setCell (p:=⟨R,0,none⟩) (by show _≤R;omega) _
 exact ⟨(hm.keep (Keep.of_set (show R < lo by omega))).mono (by omega) (by simp),(hl.keep (Keep.of_set (show R < lo' by omega))).mono (by omega) (by simp),hz,hn,h.cb.set h.pR,but_low h.but b⟩
theorem Mem9.drew {w w':World} {p n c:Nat} {s sm sl:Option Addr} {m:List (List WD)} {l:List Int} (h:Mem9 w w' p s n c sm sl m l):Mem9 w w'.drew p s n c sm sl m l:=by
 have k:Below w'.heap.size w' w'.drew:=(Below.refl _ _).drew
 exact ⟨h.1.keep (Keep.of_below k (Nat.le_refl _)),h.2.1.keep (Keep.of_below k (Nat.le_refl _)),h.2.2.1,h.2.2.2.1,h.2.2.2.2.1.keep k,h.2.2.2.2.2.trans (But.of_below k)⟩
theorem maR_mem {w:World} {lo hi:Nat} {s1 s2 s3 s4:Option Addr} {d:MD} (h:MaR w lo hi s1 s2 s3 s4 d):MemR w lo hi s3 d.mem:=h.2.2.1
set_option maxRecDepth 100000 in
set_option maxHeartbeats 8000000 in
theorem drawMem_any (p : Nat) (s : Option Addr) (n c : Nat) (w : World) (h : CBx158 w p s n c) :
  Calls Try.prog 23 #[.pointer (some ⟨p,0,none⟩)] w fun e w'=>∃ (sm:Option Addr) (cm:Nat) (m:List (List WD)) (sl:Option Addr) (cl:Nat) (l:List Int),e=.returned (.tuple #[.agg #[.slice sm m.length cm],.slice sl l.length cl])∧Mem9 w w' p s n c sm sl m l:=by
 have hp:=h.lt
 have H0:Hid (CBx158 w p s n c):=h
 clear h
 go_enter Try.func23,Try.ntmps23
 go_wp2_with fail
 obtain ⟨W,hW⟩:∃ W,w.alloc (.cells #[.slice none 0 0] 30)=W:=⟨_,rfl⟩
 have J0:Hid (J9 w W p s n c w.heap.size):=by
  have K0:Below w.heap.size w W:=by rw [← hW];exact (Below.refl _ _).alloc (Nat.le_refl _) _
  exact ⟨H0.out.keep K0,by rw [← hW];exact BM.new,But.of_below K0,rfl,hp⟩
 have S0:Hid (W.heap.size=w.heap.size+1):=by show _=_;rw [← hW];simp
 rw [hW]
 clear hW H0
 refine (once_cb p s n c 4 W J0.out.cb (by omega) (by omega)).mono ?_
 rintro e w1 ⟨x,rfl,hc1,hb1⟩
 have J1:Hid (J9 w w1 p s n c w.heap.size):=J0.out.step hc1 hb1
 have S1:Hid (w.heap.size+1≤w1.heap.size):=by show _≤_;have:=hb1.size;have:=S0.out;omega
 clear hc1 hb1 J0 S0
 cases x
 ·go_wp2_with fail
  refine (drawRight_ok p s n c w1 J1.out.cb).mono ?_
  rintro e w2 ⟨v0,v1,cs,bs,rfl,ho0,ho1,hcs,hbs,hco,hbo,hc2,hb2⟩
  obtain ⟨s0,c0,s1,c1,e0,e1,hP⟩:=OwnB.prog (p:=⟨cs,bs⟩) ho0 ho1
  subst e0 e1
  have J2:Hid (J9 w w2 p s n c w.heap.size):=J1.out.step hc2 hb2
  have PB:Hid (progB ⟨cs,bs⟩=true):=prog_ok hcs hbs hco hbo
  have FP:Hid (Fits ⟨cs,bs⟩):=fits_ok hcs.2 hbs.2 hbo
  have CL:Hid (cs.length≤3):=hcs.2
  have BL:Hid (bs.length≤4):=hbs.2
  have zz2:=hb2.size
  have S2:Hid (w.heap.size+1≤w2.heap.size):=by show _≤_;have:=S1.out;omega
  have HP2:Hid (ProgR w2 w1.heap.size w2.heap.size s0 s1 ⟨cs,bs⟩):=hP
  clear ho0 ho1 hcs hbs hco hbo hc2 hb2 hP J1
  go_upto_region 5 with fail
  obtain ⟨V,hV⟩:∃ V,w2.alloc (.cells #[.slice s0 cs.length c0,.slice s1 bs.length c1] 66)=V:=⟨_,rfl⟩
  have x0:V.cell? ⟨w2.heap.size,0,none⟩=some (.slice s0 cs.length c0):=by rw [← hV];simp [go_sem]
  have x1:V.cell? ⟨w2.heap.size,1,none⟩=some (.slice s1 bs.length c1):=by rw [← hV];simp [go_sem]
  have kV:Below w2.heap.size w2 V:=by rw [← hV];exact (Below.refl _ _).alloc (Nat.le_refl _) _
  have zV:V.heap.size=w2.heap.size+1:=by rw [← hV];simp
  rw [hV]
  clear hV
  obtain ⟨xb,hxb⟩:∃ xb,w2.heap.size=xb:=⟨_,rfl⟩
  rw [hxb] at x0 x1 zV ⊢
  have JV:Hid (J9 w V p s n c w.heap.size):=J2.out.bel kV
  have PV:Hid (ProgR V w1.heap.size xb s0 s1 ⟨cs,bs⟩):=by have h:=ProgR.keep' HP2.out (Keep.of_below kV (Nat.le_refl _));rw [hxb] at h;exact h
  have hpx:p < xb:=by have:=S2.out;omega
  have hpV:p < V.heap.size:=by omega
  have hxV:xb < V.heap.size:=by omega
  have RB:Hid (∀ Y,But p V Y→Y.cell? ⟨xb,0,none⟩=some (.slice s0 cs.length c0)∧Y.cell? ⟨xb,1,none⟩=some (.slice s1 bs.length c1)):=fun Y hY=>⟨(hY.cell (p:=⟨xb,0,none⟩) hxV (by show xb≠p;omega)).trans x0,(hY.cell (p:=⟨xb,1,none⟩) hxV (by show xb≠p;omega)).trans x1⟩
  have CT1:Hid (∀ (X:World) (pB:Option Nat),StW V X p s n c pB→Calls Try.prog 39 #[.pointer (some ⟨p,0,none⟩),.int .i64 bs.length,.int .i64 25] X fun e w'=>∃ (sp:Option Addr) (cp:Nat) (lp:List ND),e=.returned (.slice sp lp.length cp)∧Hid (PkW V w' p s n c pB sp lp)∧w'.cell? ⟨xb,0,none⟩=some (.slice s0 cs.length c0)∧w'.cell? ⟨xb,1,none⟩=some (.slice s1 bs.length c1)):=fun X pB hX=>by
   refine (picksW p s n c bs.length 25 hX hpV BL.out (by omega) (by omega)).mono ?_
   rintro e w' ⟨sp,cp,lp,he,hk⟩
   exact ⟨sp,cp,lp,he,hk,RB.out _ hk.st.bt⟩
  have CT2:Hid (∀ (X:World) (pB:Option Nat) (sp:Option Addr) (cp:Nat) (lp:List ND),PkW V X p s n c pB sp lp→Calls Try.prog 38 #[.agg #[.slice s0 cs.length c0,.slice s1 bs.length c1],.slice sp lp.length cp] X fun e w'=>∃ (v:Value) (q:MP) (D:MD) (ok:Bool),e=.returned (.tuple #[v,.agg #[.slice q.s1 D.codes.length q.c1,.slice q.s2 D.cores.length q.c2,.slice q.s3 D.mem.length q.c3,.slice q.s4 D.tr.length q.c4],.bool ok])∧Hid (RwW V w' p s n c pB ⟨cs,bs⟩ q D ok)∧w'.cell? ⟨xb,0,none⟩=some (.slice s0 cs.length c0)∧w'.cell? ⟨xb,1,none⟩=some (.slice s1 bs.length c1)):=fun X pB sp cp lp hX=>by
   refine (witW (P:=⟨cs,bs⟩) hX PV.out (by have:=S1.out;omega) (by omega) FP.out PB.out).mono ?_
   rintro e w' ⟨v,q,D,ok,he,hk⟩
   exact ⟨v,q,D,ok,he,hk,RB.out _ hk.st.bt⟩
  have ST0:Hid (StW V V p s n c none):=⟨JV.out.cb,But.refl _ _,trivial,fun b e=>by cases e⟩
  have hdr:∀ X:World,X.drew.heap.size=X.heap.size:=fun _=>rfl
  have nV:¬ xb=V.heap.size:=by omega
  have nV':¬ V.heap.size=xb:=by omega
  have IC:Hid (∀ Y,But p V Y→IntsR Y w1.heap.size Y.heap.size s0 cs):=fun Y hY=>by
   have kp:Keep w1.heap.size xb V Y:=fun b b1 b2=>hY.block b (by omega) (by have:=S1.out;omega)
   have hs:=hY.size
   exact (PV.out.1.keep kp).mono (Nat.le_refl _) (by omega)
  have hRV:Hid (w.heap.size < V.heap.size):=by show _ < _;have:=S1.out;omega
  have nR:¬ xb=w.heap.size:=by have:=S2.out;omega
  have nR':¬ w.heap.size=xb:=by omega
  clear HP2 PV J2 S2 kV hxb FP zV
  go_cut [8,9] (fun s8 s9 wx=>CutW V p s n c ⟨cs,bs⟩ s8 s9 wx)
  case first=>
   go_region_held3 (fun w'=>w'.cell? ⟨xb,0,none⟩=some (.slice s0 cs.length c0)∧w'.cell? ⟨xb,1,none⟩=some (.slice s1 bs.length c1)) (go_keep) (first | (go_at_call 39;with_reducible refine (CT1.out _ _ (by first | with_reducible exact ST0.out.drew | with_reducible exact ST0.out.drew.made.drew | with_reducible exact ST0.out.made.drew | with_reducible exact ST0.out.drew.made | with_reducible exact ST0.out.made | with_reducible exact ST0.out)).mono ?_;rintro e wC ⟨sp,cp,lp,rfl,PK,yC0,yC1⟩;have zC:=PK.out.st.bt.size;have nC:¬ xb=wC.heap.size:=(by omega);have nC':¬ wC.heap.size=xb:=(by omega);(try obtain ⟨⟨⟨b9,b0',b1',b2',b3'⟩,bf'⟩,-⟩:=boxSome PK.out.st.b)) | (go_at_call 38;with_reducible refine (CT2.out _ _ _ _ _ (by first | with_reducible exact PK.out | with_reducible exact PK.out.made | with_reducible exact PK.out.drew | with_reducible exact PK.out.made.drew | with_reducible exact PK.out.drew.made | with_reducible exact PK.out.drew.made.drew)).mono ?_;rintro e wD ⟨v,q,D,ok,rfl,RW,yD0,yD1⟩;have zD:=RW.out.st.bt.size;have nD:¬ xb=wD.heap.size:=(by omega);have nD':¬ wD.heap.size=xb:=(by omega);(try obtain ⟨⟨⟨d9,d0',d1',d2',d3'⟩,df'⟩,-⟩:=boxSome RW.out.st.b)) | fail)
   all_goals
    go_wp2_with fail
    go_meet
    first
     | with_reducible exact cutW_new RW.out
     | with_reducible exact cutW_set hpV RW.out
  case rest=>
   obtain ⟨bo,q,D,ok,rfl,rfl,hbo,hX4,hma,hsz,hok,hcb,hbt⟩:=hcut
   have JC:Hid (J9 w wc p s n c w.heap.size):=JV.out.step hcb hbt
   obtain ⟨xC0,xC1⟩:=RB.out _ hbt
   have MC:Hid (MemR wc V.heap.size wc.heap.size q.s3 D.mem):=maR_mem hma
   have MZ:Hid (D.mem.length+szR D.mem≤40000):=by show _≤_;unfold MaSz at hsz;omega
   obtain ⟨⟨-,m0,m1,m2,m3⟩,-⟩:=hX4
   have BT:Hid (But p V wc):=hbt
   have y0:=JC.out.rb.c0
   have yz:=JC.out.rb.fz 0
   have yl:=JC.out.rb.lt
   clear hma hsz hok hcb hbt x0 x1 CT1 CT2 ST0 JV hdr nV nV'
   cases ok
   ·have DC:Hid (Below wc.heap.size wc wc.drew):=(Below.refl _ _).drew
    have CN:Hid (∀ X,Below wc.heap.size wc X→Calls Try.prog 40 #[] X fun e w'=>∃ (sN:Option Addr) (cN:Nat),e=.returned (.agg #[.slice sN 24 cN])∧Hid (J9 w w' p s n c w.heap.size)∧Hid (MemR w' wc.heap.size w'.heap.size sN (newM 24))∧Hid (But p V w')∧w'.cell? ⟨xb,0,none⟩=some (.slice s0 cs.length c0)∧w'.cell? ⟨xb,1,none⟩=some (.slice s1 bs.length c1)∧w'.cell? ⟨w.heap.size,0,none⟩=some (.slice none 0 0)∧w'.frozen? ⟨w.heap.size,0,none⟩=false∧w.heap.size < w'.heap.size):=fun X hX=>by
     refine (specNewU_any X).mono ?_
     rintro e w' ⟨sN,cN,rfl,hN,hb⟩
     have hk:=hX.trans (hb.mono hX.size)
     have J:=JC.out.bel hk
     have B:=BT.out.trans (But.of_below hk)
     obtain ⟨r0,r1⟩:=RB.out _ B
     exact ⟨sN,cN,rfl,J,hN.mem.mono hX.size (Nat.le_refl _),B,r0,r1,J.rb.c0,J.rb.fz 0,J.rb.lt⟩
    go_wp2_with fail
    go_region_held3 (fun w'=>w'.cell? ⟨xb,0,none⟩=some (.slice s0 cs.length c0)∧w'.cell? ⟨xb,1,none⟩=some (.slice s1 bs.length c1)) (go_keep) (first | (go_at_call 40;with_reducible refine (CN.out _ (by first | with_reducible exact DC.out | with_reducible exact Below.refl _ _)).mono ?_;rintro e w5 ⟨sN,cN,rfl,JN,MN,BN,a0,a1,z0,zf,zl⟩) | fail)
    all_goals
     go_wp2
     refine bodyPost_ret (v:=.tuple #[.agg #[.slice sN 24 cN],.slice s0 cs.length c0]) (by simp [results,Try.results23,go_sem,z0]) rfl ⟨sN,cN,newM 24,s0,c0,cs,by rw [newM_len],?_⟩
     exact JN.out.fin MN.out (IC.out _ BN.out) (by have:=JC.out.rb.lt;omega) (by have:=S1.out;omega) (by decide+kernel) (by have:=CL.out;omega)
   ·have nB:¬ bo=w.heap.size:=by have:=hRV.out;omega
    have nB':¬ w.heap.size=bo:=by omega
    go_wp2_with fail
    go_region_held3 (fun w'=>w'.cell? ⟨xb,0,none⟩=some (.slice s0 cs.length c0)∧w'.cell? ⟨bo,2,none⟩=some (.slice q.s3 D.mem.length q.c3)) (go_keep) (fail)
    all_goals
     go_wp2
     refine bodyPost_ret (v:=.tuple #[.agg #[.slice q.s3 D.mem.length q.c3],.slice s0 cs.length c0]) (by simp [results,Try.results23,go_sem,y0]) rfl ⟨q.s3,q.c3,D.mem,s0,c0,cs,rfl,?_⟩
     have F9:=fun u=>JC.out.fin (u:=u) MC.out (IC.out _ BT.out) hRV.out (by have:=S1.out;omega) MZ.out (by have:=CL.out;omega)
     first | exact F9 _ | exact (F9 _).drew
 ·go_wp2_with fail
  refine (draw6_cb p s n c w1 J1.out.cb).mono ?_
  rintro e w2 ⟨sm,cm,m,sv,cv,l,rfl,hm,hr,hf,hl,hc2,hb2⟩
  have J2:Hid (J9 w w2 p s n c w.heap.size):=J1.out.step hc2 hb2
  have MZ:Hid (m.length+szR m≤40000):=by show _≤_;unfold Fit6 at hf;omega
  have M2:Hid (MemR w2 w1.heap.size w2.heap.size sm m):=hm
  have zz2:=hb2.size
  clear hm hr hf hl hc2 hb2 J1
  go_upto_region 3 with fail
  obtain ⟨V,hV⟩:∃ V,w2.alloc (.cells #[.slice sm m.length cm] 30)=V:=⟨_,rfl⟩
  have x0:V.cell? ⟨w2.heap.size,0,none⟩=some (.slice sm m.length cm):=by rw [← hV];simp [go_sem]
  have kV:Below w2.heap.size w2 V:=by rw [← hV];exact (Below.refl _ _).alloc (Nat.le_refl _) _
  have zV:V.heap.size=w2.heap.size+1:=by rw [← hV];simp
  rw [hV]
  clear hV
  obtain ⟨xb,hxb⟩:∃ xb,w2.heap.size=xb:=⟨_,rfl⟩
  rw [hxb] at x0 zV ⊢
  have JV:Hid (J9 w V p s n c w.heap.size):=J2.out.bel kV
  have hs1:=S1.out
  have hxV:xb < V.heap.size:=by omega
  have hxp:xb≠p:=by omega
  have HM:Hid (∀ Y,But p V Y→MemR Y w1.heap.size Y.heap.size sm m):=fun Y hY=>by
   have kp:Keep w1.heap.size w2.heap.size w2 Y:=fun b b1 b2=>(hY.block b (by omega) (by omega)).trans (kV.block b b2)
   have hs:=hY.size
   exact (M2.out.keep kp).mono (Nat.le_refl _) (by omega)
  have JD:Hid (J9 w V.drew p s n c w.heap.size):=JV.out.bel ((Below.refl _ _).drew)
  have BD:Hid (But p V V.drew):=But.of_below ((Below.refl _ _).drew)
  have CC:Hid (∀ X,J9 w X p s n c w.heap.size→But p V X→Calls Try.prog 16 #[.pointer (some ⟨p,0,none⟩)] X fun e w'=>∃ (sl:Option Addr) (cl:Nat) (l:List Int),e=.returned (.slice sl l.length cl)∧Hid (J9 w w' p s n c w.heap.size)∧Hid (But p V w')∧Hid (IntsR w' V.heap.size w'.heap.size sl l)∧Hid (l.length≤9)∧w'.cell? ⟨xb,0,none⟩=some (.slice sm m.length cm)∧w'.cell? ⟨w.heap.size,0,none⟩=some (.slice none 0 0)∧w'.frozen? ⟨w.heap.size,0,none⟩=false∧w.heap.size < w'.heap.size):=fun X hJ hB=>by
   refine (drawCaps_cb p s n c X hJ.cb).mono ?_
   rintro e w' ⟨v,l,rfl,hl,hd⟩
   obtain ⟨sl,cl,rfl⟩:=hd.o.sl
   have J:=hJ.step hd.b hd.t
   have B:=hB.trans hd.t
   exact ⟨sl,cl,l,rfl,J,B,(own_ints hd.o).mono hB.size (Nat.le_refl _),hl,(B.cell (p:=⟨xb,0,none⟩) hxV hxp).trans x0,J.rb.c0,J.rb.fz 0,J.rb.lt⟩
  have hRV:Hid (w.heap.size < V.heap.size):=by show _ < _;omega
  have BR:Hid (But p V V):=But.refl _ _
  have y0:=JV.out.rb.c0
  have yz:=JV.out.rb.fz 0
  have yl:=JV.out.rb.lt
  have nR:¬ xb=w.heap.size:=by omega
  have nR':¬ w.heap.size=xb:=by omega
  clear zV hxb J2 M2 kV hs1
  go_region_held3 (fun w'=>w'.cell? ⟨xb,0,none⟩=some (.slice sm m.length cm)) (go_keep) (first | (go_at_call 16;with_reducible refine (CC.out _ (by first | with_reducible exact JD.out | with_reducible exact JV.out) (by first | with_reducible exact BD.out | with_reducible exact BR.out)).mono ?_;rintro e w4 ⟨sl,cl,l4,rfl,J4,B4,I4,L4,a0,z0,zf,zl⟩) | fail)
  all_goals
   go_wp2
   refine bodyPost_ret (v:=.tuple #[.agg #[.slice sm m.length cm],.slice sl l4.length cl]) (by simp [results,Try.results23,go_sem,z0]) rfl ⟨sm,cm,m,sl,cl,l4,rfl,?_⟩
   exact J4.out.fin (HM.out _ B4.out) I4.out (by have:=S1.out;omega) hRV.out MZ.out L4.out
end
section
set_option linter.unusedSimpArgs false
set_option linter.unusedVariables false
set_option maxRecDepth 100000
open Go.RowKit Go.Deep
set_option maxRecDepth 100000 in
set_option maxHeartbeats 4000000 in
theorem drawBase_any (s : Option Addr) (n c : Nat) (w : World) (hb : Bytes w w.heap.size s n) (hn : n ≤ maxLen) :
  Calls Try.prog 5 #[.slice s n c] w fun e w'=>∃ (sl:Option Addr) (cl:Nat) (l:List Int) (z:Int),e=.returned (.tuple #[.slice sl l.length cl,.int .i64 z])∧IntsR w' w.heap.size w'.heap.size sl l∧l.length≤9∧Below w.heap.size w w':=by
 have HB:Hid (Bytes w w.heap.size s n):=hb
 have HN:Hid (n≤maxLen):=hn
 clear hb hn
 go_enter Try.func5,Try.ntmps5
 go_wp2_with fail
 refine (new_cb s n c w HB.out HN.out).mono ?_
 rintro e w1 ⟨rfl,hc1,hb1,hs1⟩
 have C1:Hid (CBx158 w1 w.heap.size s n c):=hc1
 have K1:Hid (Below w.heap.size w w1):=hb1
 have S1:Hid (w1.heap.size=w.heap.size+1):=hs1
 clear hc1 hb1 hs1 HB HN
 go_wp2_with fail
 refine (drawCaps_cb w.heap.size s n c w1 C1.out).mono ?_
 rintro e w2 ⟨v,l,rfl,hl,hd⟩
 obtain ⟨sl,cl,rfl⟩:=hd.o.sl
 have D2:Hid (DC w1 w2 w.heap.size s n c (.slice sl l.length cl) l):=hd
 have L2:Hid (l.length≤9):=hl
 have hpw:w.heap.size < w1.heap.size:=by have:=S1.out;omega
 clear hd hl C1
 go_wp2_with fail
 refine (below_cb w.heap.size s n c 4 w2 D2.out.b (by omega) (by omega)).mono ?_
 rintro e w3 ⟨y,rfl,y0,y1,hc3,hb3⟩
 have D3:Hid (DC w1 w3 w.heap.size s n c (.slice sl l.length cl) l):=D2.out.but hpw hc3 hb3
 have Y:Hid (0≤y∧y < 4):=⟨y0,y1⟩
 clear hc3 hb3 D2 y0 y1
 go_wp2_with fail
 refine (below_cb w.heap.size s n c 12 w3 D3.out.b (by omega) (by omega)).mono ?_
 rintro e w4 ⟨x,rfl,x0,x1,hc4,hb4⟩
 have D4:Hid (DC w1 w4 w.heap.size s n c (.slice sl l.length cl) l):=D3.out.but hpw hc4 hb4
 clear hc4 hb4 D3 x0 x1
 go_wp2
 refine bodyPost_ret (v:=.tuple #[.slice sl l.length cl,.int .i64 (wrap64 (y - wrap64 (x.tdiv 11)))]) (by simp [results,Try.results5,go_sem]) rfl ⟨sl,cl,l,_,rfl,(own_ints D4.out.o).mono (by omega) (Nat.le_refl _),L2.out,?_⟩
 exact K1.out.trans (D4.out.t.below (Nat.le_refl _) (by omega))
/- the state of DrawChanIn -/
structure Ji (w0 w:World) (p:Nat) (s:Option Addr) (n c R X lo:Nat) (sm:Option Addr) (cm:Nat) (m:List (List WD)) (sv:Option Addr) (l:List Int):Prop where
 cb:CBx158 w p s n c
 bx:BM w X (.slice sm m.length cm)
 rb:BM w R (.slice none 0 0)
 mem:MemR w lo w.heap.size sm m
 row:IntsR w lo w.heap.size sv l
 low:Below w0.heap.size w0 w
 r0:w0.heap.size=R
 rp:R < p
 pl:p < lo
 lx:lo≤X
theorem Ji.step {w0 w w':World} {p n c R X lo cm:Nat} {s sm sv:Option Addr} {m:List (List WD)} {l:List Int} (h:Ji w0 w p s n c R X lo sm cm m sv l) (hc:CBx158 w' p s n c) (hb:But p w w'):Ji w0 w' p s n c R X lo sm cm m sv l:=by
 have h1:=h.r0
 have h2:=h.rp
 have h3:=h.pl
 have h4:=h.lx
 have h5:=h.bx.lt
 have hs:=hb.size
 have hk:Keep lo w.heap.size w w':=fun b b1 b2=>hb.block b b2 (by omega)
 exact ⟨hc,h.bx.kept (hb.block X h5 (by omega)),h.rb.kept (hb.block R (by omega) (by omega)),(h.mem.keep hk).mono (Nat.le_refl _) hs,(h.row.keep hk).mono (Nat.le_refl _) hs,h.low.trans (hb.below (by omega) (by omega)),h1,h2,h3,h4⟩
theorem Ji.grow {w0 w w':World} {p n c R X lo cm:Nat} {s sm sv:Option Addr} {m:List (List WD)} {l:List Int} (h:Ji w0 w p s n c R X lo sm cm m sv l) (hb:Below w.heap.size w w'):Ji w0 w' p s n c R X lo sm cm m sv l:=h.step (h.cb.keep hb) (But.of_below hb)
theorem Ji.below {w0 w : World} {p n c R X lo cm : Nat} {s sm sv : Option Addr} {m : List (List WD)} {l : List Int} (h : Ji w0 w p s n c R X lo sm cm m sv l) (q : Int) (hq0 : 0 < q) (hq : q ≤ 256) :
  Calls Try.prog 17 #[.pointer (some ⟨p,0,none⟩),.int .i64 q] w fun e w'=>∃ x:Int,e=.returned (.int .i64 x)∧Hid (Ji w0 w' p s n c R X lo sm cm m sv l):=by
 refine (below_cb p s n c q w h.cb hq0 hq).mono ?_
 rintro e w' ⟨x,rfl,x0,x1,hc,hb⟩
 exact ⟨x,rfl,h.step hc hb⟩
theorem Ji.fin {w0 w:World} {p n c R X lo cm:Nat} {s sm sv:Option Addr} {m:List (List WD)} {l:List Int} {u:Value} (h:Ji w0 w p s n c R X lo sm cm m sv l):MemR (w.setCell ⟨R,0,none⟩ u) w0.heap.size (w.setCell ⟨R,0,none⟩ u).heap.size sm m∧IntsR (w.setCell ⟨R,0,none⟩ u) w0.heap.size (w.setCell ⟨R,0,none⟩ u).heap.size sv l∧Below w0.heap.size w0 (w.setCell ⟨R,0,none⟩ u):=by
 have h1:=h.r0
 have h2:=h.rp
 have h3:=h.pl
 exact ⟨(h.mem.keep (Keep.of_set (show R < lo by omega))).mono (by omega) (by simp),(h.row.keep (Keep.of_set (show R < lo by omega))).mono (by omega) (by simp),h.low.setCell (p:=⟨R,0,none⟩) (by show _≤R;omega) _⟩
set_option maxRecDepth 100000 in
set_option maxHeartbeats 4000000 in
theorem drawCi_any (s : Option Addr) (n c : Nat) (w : World) (hb : Bytes w w.heap.size s n) (hn : n ≤ maxLen) :
  Calls Try.prog 8 #[.slice s n c] w fun e w'=>∃ (sm:Option Addr) (cm:Nat) (m:List (List WD)) (sl:Option Addr) (cl:Nat) (l:List Int) (z:Int),e=.returned (.tuple #[.agg #[.slice sm m.length cm],.slice sl l.length cl,.int .i64 z])∧MemR w' w.heap.size w'.heap.size sm m∧IntsR w' w.heap.size w'.heap.size sl l∧m.length+szR m≤40000∧l.length≤9∧Below w.heap.size w w':=by
 have HB:Hid (Bytes w w.heap.size s n):=hb
 have HN:Hid (n≤maxLen):=hn
 clear hb hn
 go_enter Try.func8,Try.ntmps8
 go_wp2_with fail
 obtain ⟨W,hW⟩:∃ W,w.alloc (.cells #[.slice none 0 0] 30)=W:=⟨_,rfl⟩
 have R0:BM W w.heap.size (.slice none 0 0):=by rw [← hW];exact BM.new
 have K0:Below w.heap.size w W:=by rw [← hW];exact (Below.refl _ _).alloc (Nat.le_refl _) _
 have S0:W.heap.size=w.heap.size+1:=by rw [← hW];simp
 rw [hW]
 have HS0:Hid (W.heap.size=w.heap.size+1):=S0
 clear hW S0
 refine (new_cb s n c W (HB.out.up K0) HN.out).mono ?_
 rintro e w1 ⟨rfl,hc1,hb1,hs1⟩
 have HS1:Hid (w1.heap.size=W.heap.size+1):=hs1
 clear hs1
 go_wp2_with fail
 refine (drawMem_any W.heap.size s n c w1 hc1).mono ?_
 rintro e w2 ⟨sm,cm,m,sl,cl,l,rfl,hm,hr,hz,hl,hc2,hb2⟩
 have F:Hid (Ji w (w2.alloc (.cells #[.slice sm m.length cm] 30)) W.heap.size s n c w.heap.size w2.heap.size w1.heap.size sm cm m sl l):=by
  have z2:=hb2.size
  have S0:=HS0.out
  have hs1:=HS1.out
  have a1:Below w2.heap.size w2 (w2.alloc (.cells #[.slice sm m.length cm] 30)):=(Below.refl w2.heap.size w2).alloc (Nat.le_refl _) _
  refine ⟨hc2.keep a1,BM.new,R0.kept ((a1.block _ (by omega)).trans ((hb2.block _ (by omega) (by omega)).trans (hb1.block _ R0.lt))),(hm.keep (Keep.of_below a1 (Nat.le_refl _))).mono (Nat.le_refl _) (by simp),(hr.keep (Keep.of_below a1 (Nat.le_refl _))).mono (Nat.le_refl _) (by simp),((K0.trans (hb1.mono (by omega))).trans (hb2.below (by omega) (by omega))).alloc (by omega) _,rfl,by omega,by omega,z2⟩
 have HZ:Hid (m.length+szR m≤40000):=hz
 have HL:Hid (l.length≤9):=hl
 clear hm hr hz hl hc2 hb2 hc1 hb1 HS1 HS0 R0 K0 HB HN
 go_upto_region 3 with fail
 generalize w2.alloc (.cells #[.slice sm m.length cm] 30)=U at F ⊢
 generalize w2.heap.size=X at F ⊢
 generalize W.heap.size=P at F ⊢
 generalize w1.heap.size=lo at F
 have x0:=F.out.bx.c0
 have xl:=F.out.bx.lt
 have nR:¬ X=w.heap.size:=by have:=F.out.rp;have:=F.out.pl;have:=F.out.lx;omega
 have nR':¬ w.heap.size=X:=by omega
 have D1:Hid (Ji w U.drew P s n c w.heap.size X lo sm cm m sl l):=F.out.grow ((Below.refl _ _).drew)
 clear F
 go_region_held3 (fun w'=>w'.cell? ⟨X,0,none⟩=some (.slice sm m.length cm)) (go_keep) (first | (go_at_call 17;with_reducible refine (D2.out.below 12 (by omega) (by omega)).mono ?_;rintro e w6 ⟨u,rfl,D3⟩;have x0u:=D3.out.bx.c0;have r0:=D3.out.rb.c0;have rz:=D3.out.rb.fz 0;have rl:=D3.out.rb.lt) | (go_at_call 17;with_reducible refine (D1.out.below 4 (by omega) (by omega)).mono ?_;rintro e w5 ⟨y,rfl,D2⟩;have x0y:=D2.out.bx.c0) | fail)
 all_goals
  go_wp2
  obtain ⟨f1,f2,f3⟩:=D3.out.fin (u:=.slice sm m.length cm)
  refine bodyPost_ret (v:=.tuple #[.agg #[.slice sm m.length cm],.slice sl l.length cl,.int .i64 (IntKind.i64.wrap (y - IntKind.i64.wrap (u.tdiv 11)))]) ?_ rfl ⟨sm,cm,m,sl,cl,l,_,rfl,f1,f2,HZ.out,HL.out,f3⟩
  simp [results,Try.results8,go_sem,r0]
end
section
set_option linter.unusedSimpArgs false
set_option linter.unusedVariables false
set_option maxRecDepth 100000
open Go.RowKit
structure X3 (w:World) (g:Nat) (a b c:Value):Prop where
 lt:g < w.heap.size
 c0:w.cell? ⟨g,0,none⟩=some a
 c1:w.cell? ⟨g,1,none⟩=some b
 c2:w.cell? ⟨g,2,none⟩=some c
 fz:∀ j,w.frozen? ⟨g,j,none⟩=false
theorem X3.keep {w w':World} {g:Nat} {a b c:Value} (h:X3 w g a b c) (hb:w'.heap[g]? =w.heap[g]?) (hs:w.heap.size≤w'.heap.size):X3 w' g a b c:=
 ⟨Nat.lt_of_lt_of_le h.lt hs,(World.cell?_of_block (w:=w) hb).trans h.c0,(World.cell?_of_block (w:=w) hb).trans h.c1,(World.cell?_of_block (w:=w) hb).trans h.c2,fun j=>(World.frozen?_of_block (w:=w) hb).trans (h.fz j)⟩
theorem X3.below {w w':World} {B g:Nat} {a b c:Value} (h:X3 w g a b c) (hb:Below B w w') (hB:g < B):X3 w' g a b c:=h.keep (hb.block g hB) hb.size
theorem X3.set1 {w:World} {g:Nat} {a b c:Value} (h:X3 w g a b c) (v:Value):X3 (w.setCell ⟨g,1,none⟩ v) g a v c:=⟨by simpa using h.lt,(cOff (by omega)).trans h.c0,cAt h.c1,(cOff (by omega)).trans h.c2,fun j=>fSet (h.fz j)⟩
theorem X3.new (w:World) (a b c:Value) (T:TypeId):X3 (w.alloc (.cells #[a,b,c] T)) w.heap.size a b c:=⟨by simp,by simp [go_sem],by simp [go_sem],by simp [go_sem],fun j=>by simp [go_sem]⟩
end
end Go.Proofs.Ytkhjhibigldcgaa
