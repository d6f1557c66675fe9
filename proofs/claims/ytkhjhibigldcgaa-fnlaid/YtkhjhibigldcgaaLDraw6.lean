/- l6Draw: a memory and a view are drawn, and perhaps spoiled. Conditions: the cursor and its bytes lie in memory as the reading says. -/
import Derived.Test.YtkhjhibigldcgaaLG00
import Derived.Test.YtkhjhibigldcgaaLG07
import Derived.Test.YtkhjhibigldcgaaLG04
import Derived.Test.YtkhjhibigldcgaaLG02
import Derived.Test.YtkhjhibigldcgaaLG06
import Derived.Test.YtkhjhibigldcgaaLG08
import Derived.Test.YtkhjhibigldcgaaLDrawM
import Derived.Test.YtkhjhibigldcgaaLDraw1
import Derived.Test.YtkhjhibigldcgaaLG23
namespace Go.Proofs.Ytkhjhibigldcgaa
set_option linter.unusedSimpArgs false
set_option linter.unusedVariables false
set_option maxRecDepth 100000
open Go.RowKit
def Fit6 (m:List (List WD)):Prop:=m.length+szR m≤2024
/- the state of the drawing: two boxes, a memory, a view -/
structure H6 (w0 w:World) (p:Nat) (s:Option Addr) (n c R X:Nat) (sm:Option Addr) (cm:Nat) (m:List (List WD)) (sv:Option Addr) (cv:Nat) (l:List Int):Prop where
 cb:CBx158 w p s n c
 bx:BM w X (.slice sm m.length cm)
 rb:BM w R (.slice none 0 0)
 mu:MU w (R+1) sm cm m
 ov:OwnN w (R+1) (.slice sv l.length cv) l
 but:But p w0 w
 pR:p < R
 RX:R < X
 old:w0.heap.size=R
theorem H6.step {w0 w w':World} {p n c R X cm cv:Nat} {s sm sv:Option Addr} {m:List (List WD)} {l:List Int} (h:H6 w0 w p s n c R X sm cm m sv cv l) (hc:CBx158 w' p s n c) (hb:But p w w'):H6 w0 w' p s n c R X sm cm m sv cv l:=by
 have h1:=h.pR
 have h2:=h.RX
 have h3:=h.bx.lt
 exact ⟨hc,h.bx.kept (hb.block X h3 (by omega)),h.rb.kept (hb.block R (by omega) (by omega)),h.mu.kept (fun b b1 b2=>hb.block b b2 (by omega)) hb.size,h.ov.but hb (by omega),h.but.trans hb,h1,h2,h.old⟩
theorem H6.grow {w0 w w':World} {p n c R X cm cv:Nat} {s sm sv:Option Addr} {m:List (List WD)} {l:List Int} (h:H6 w0 w p s n c R X sm cm m sv cv l) (hb:Below w.heap.size w w'):H6 w0 w' p s n c R X sm cm m sv cv l:=h.step (h.cb.keep hb) (But.of_below hb)
theorem H6.belowC {w0 : World} {p n c R X cm cv : Nat} {s sm sv : Option Addr} {m : List (List WD)} {l : List Int} (q : Int) (w : World) (h : H6 w0 w p s n c R X sm cm m sv cv l) (hq0 : 0 < q) (hq : q ≤ 256) :
  Calls Try.prog 17 #[.pointer (some ⟨p,0,none⟩),.int .i64 q] w fun e w'=>∃ x:Int,e=.returned (.int .i64 x)∧0≤x∧x < q∧H6 w0 w' p s n c R X sm cm m sv cv l:=by
 refine (below_cb p s n c q w h.cb hq0 hq).mono ?_
 rintro e w' ⟨x,rfl,x0,x1,hc,hb⟩
 exact ⟨x,rfl,x0,x1,h.step hc hb⟩
theorem H6.pick {w0 : World} {p n c R X cm cv : Nat} {s sm sv : Option Addr} {m : List (List WD)} {l : List Int} (g k : Nat) (li : List Int) (w : World) (h : H6 w0 w p s n c R X sm cm m sv cv l) (hm : k = li.length) (hl0 : 0 < li.length) (hl : li.length ≤ 256) (hg : g < w.heap.size) (hX : X < g) (hcell : ∀ i, i < li.length → w.cell? ⟨g, 0 + i, none⟩ = some (.int .i64 (li.getD i 0))) :
  Calls Try.prog 33 #[.pointer (some ⟨p,0,none⟩),.slice (some ⟨g,0,none⟩) k k] w fun e w'=>∃ x:Int,e=.returned (.int .i64 x)∧H6 w0 w' p s n c R X sm cm m sv cv l∧But p w w':=by
 have h1:=h.pR
 have h2:=h.RX
 refine (pick_cb p s n c g k li w h.cb hm hl0 hl hg (by omega) hcell).mono ?_
 rintro e w' ⟨x,rfl,x0,hc,hb⟩
 exact ⟨x,rfl,h.step hc hb,hb⟩
def Drawn6 (w w':World) (p:Nat) (s:Option Addr) (n c:Nat) (sm:Option Addr) (m:List (List WD)) (sv:Option Addr) (l:List Int):Prop:=
 MemR w' w.heap.size w'.heap.size sm m∧IntsR w' w.heap.size w'.heap.size sv l∧Fit6 m∧l.length≤24∧CBx158 w' p s n c∧But p w w'
/- the end: the box's memory goes into the answer's box -/
theorem fin6 {w0 w:World} {p n c R:Nat} {s sm sv:Option Addr} {m:List (List WD)} {l:List Int} {u:Value} (hm:MemR w (R+1) w.heap.size sm m) (hv:IntsR w (R+1) w.heap.size sv l) (hf:Fit6 m) (hl:l.length≤24) (hc:CBx158 w p s n c) (hb:But p w0 w) (hp:p < R) (ho:w0.heap.size=R):Drawn6 w0 (w.setCell ⟨R,0,none⟩ u) p s n c sm m sv l:=by
 refine ⟨(hm.keep (Keep.of_set (show R < R+1 by omega))).mono (by omega) (by simp),(hv.keep (Keep.of_set (show R < R+1 by omega))).mono (by omega) (by simp),hf,hl,hc.set hp,?_⟩
 have b:Below w0.heap.size w (w.setCell ⟨R,0,none⟩ u):=(Below.refl _ _).setCell (p:=⟨R,0,none⟩) (by show _≤R;omega) _
 exact ⟨b.os.trans hb.os,b.tape.trans hb.tape,b.output.trans hb.output,Nat.le_trans hb.size b.size,fun k hk hp=>(b.block k hk).trans (hb.block k hk hp)⟩
theorem but_new {w0 w:World} {p:Nat} {a:Addr} {v:Value} (h:But p w0 w) (ha:w0.heap.size≤a.block):But p w0 (w.setCell a v):=by
 have b:Below w0.heap.size w (w.setCell a v):=(Below.refl _ _).setCell ha _
 exact ⟨b.os.trans h.os,b.tape.trans h.tape,b.output.trans h.output,Nat.le_trans h.size b.size,fun k hk hp=>(b.block k hk).trans (h.block k hk hp)⟩
/- the way to the number that is spoiled in a memory -/
structure Way (w:World) (p X gm nm cm g1 o1 n1 c1 gx ox nx cx:Nat):Prop where
 a:w.cell? ⟨X,0,none⟩=some (.slice (some ⟨gm,0,none⟩) nm cm)
 b:w.cell? ⟨gm,1,none⟩=some (.slice (some ⟨g1,o1,none⟩) n1 c1)
 c:w.cell? ⟨g1,o1+1,none⟩=some (.slice (some ⟨gx,ox,none⟩) nx cx)
 d:∃ z,w.cell? ⟨gx,ox+2,none⟩=some (.int .i64 z)
 f:w.frozen? ⟨gx,ox+2,none⟩=false
 la:X < w.heap.size∧X≠p
 lb:gm < w.heap.size∧gm≠p
 lc:g1 < w.heap.size∧g1≠p
 ld:gx < w.heap.size∧gx≠p
theorem Way.but {w w':World} {p X gm nm cm g1 o1 n1 c1 gx ox nx cx:Nat} (h:Way w p X gm nm cm g1 o1 n1 c1 gx ox nx cx) (hb:But p w w'):Way w' p X gm nm cm g1 o1 n1 c1 gx ox nx cx:=by
 have hs:=hb.size
 obtain ⟨z,hz⟩:=h.d
 exact ⟨(hb.cell (p:=⟨X,0,none⟩) h.la.1 h.la.2).trans h.a,(hb.cell (p:=⟨gm,1,none⟩) h.lb.1 h.lb.2).trans h.b,(hb.cell (p:=⟨g1,o1+1,none⟩) h.lc.1 h.lc.2).trans h.c,⟨z,(hb.cell (p:=⟨gx,ox+2,none⟩) h.ld.1 h.ld.2).trans hz⟩,(hb.frozen (p:=⟨gx,ox+2,none⟩) h.ld.1 h.ld.2).trans h.f,⟨Nat.lt_of_lt_of_le h.la.1 hs,h.la.2⟩,⟨Nat.lt_of_lt_of_le h.lb.1 hs,h.lb.2⟩,⟨Nat.lt_of_lt_of_le h.lc.1 hs,h.lc.2⟩,⟨Nat.lt_of_lt_of_le h.ld.1 hs,h.ld.2⟩⟩
theorem H6.way {w0 w:World} {p n c R X cm cv:Nat} {s sm sv:Option Addr} {m:List (List WD)} {l:List Int} {N:Nat} (h:H6 w0 w p s n c R X sm cm m sv cv l) (hI:Inv6 m N):∃ gm g1 o1 n1 c1 gx ox nx cx,sm=some ⟨gm,0,none⟩∧Way w p X gm m.length cm g1 o1 n1 c1 gx ox nx cx∧1≤n1∧nx=24∧R+1≤gx:=by
 have h1:=h.pR
 have h2:=h.RX
 obtain ⟨S,hS⟩:=h.mu
 have hn:=hI.n
 have hrow:=hS.row
 rw [hS.n] at hrow
 obtain ⟨gm,cap,ev,-⟩:=World.ownsRow.form hrow (by omega)
 injection ev with e1 e2 e3
 subst e1
 have hgm:=World.ownsRow.lt hrow gm rfl
 obtain ⟨r,hr⟩:∃ r,S[1]? =some r:=⟨_,List.getElem?_eq_getElem (by have:=hS.n;omega)⟩
 obtain ⟨q,hq⟩:∃ q,m[1]? =some q:=⟨_,List.getElem?_eq_getElem (by omega)⟩
 have hb:=World.ownsRow.cellAt hrow 1 (by omega)
 rw [List.getElem?_map,hr] at hb
 have hb:w.cell? ⟨gm,1,none⟩=some (.slice r.s r.vs.length r.c):=hb
 have hro:=hS.r 1 r q hr hq
 have hV:=hI.r q (List.mem_of_getElem? hq)
 obtain ⟨y,hy⟩:∃ y,q[0]? =some y:=⟨_,List.getElem?_eq_getElem (by have:=hV.1;omega)⟩
 obtain ⟨x,hx⟩:=at_same hro.n hy
 have hvo:=hro.v 0 x y hx hy
 have hy24:=hV.2 y (List.mem_of_getElem? hy)
 rcases hro.c with h0 | ⟨g1,o1,es,l1,l2,hc⟩
 ·rw [h0] at hy;simp at hy
 ·obtain ⟨-,-,hc2⟩:=hc 0 x y hx hy
  rcases hvo.c with h0 | ⟨gx,ox,ex,l3,l4,hd⟩
  ·rw [h0] at hy24;simp at hy24
  ·obtain ⟨hd1,hd2⟩:=hd 2 (by omega)
   refine ⟨gm,g1,o1,r.vs.length,r.c,gx,ox,x.n,x.c,rfl,⟨h.bx.c0,by rw [hb,es],by rw [ex] at hc2;simpa using hc2,⟨_,hd1⟩,hd2,⟨h.bx.lt,by omega⟩,⟨hgm.2,by omega⟩,⟨l2,by omega⟩,⟨l4,by omega⟩⟩,?_,?_,l3⟩
   ·have:=hro.n;have:=hV.1;omega
   ·rw [hvo.n,hy24]
theorem entPick (args:Array Value) (w:World):(callFunc 33 args).run Try.prog w=.ok (.enter 33 args) w:=by kernel_rfl
theorem OM.setNil {w:World} {B g c k:Nat} {S:List RS} {m:List (List WD)} (h:OM w B (.slice (some ⟨g,0,none⟩) m.length c) S m) (hk:k < m.length):MemR (w.setCell ⟨g,k,none⟩ (.slice none 0 0)) B w.heap.size (some ⟨g,0,none⟩) (m.set k []):=by
 obtain ⟨s',c',e,hm⟩:=h.mo
 injection e with e1 e2 e3
 subst e1
 have hsep:∀ a∈mAs S,a.block≠g:=fun a ha e=>h.sep a ha (by show some g=some a.block;rw [e])
 rcases hm.c with h0 | ⟨g',o',e',h1,h2,hc⟩
 ·rw [h0] at hk;simp at hk
 ·injection e' with e'
  injection e' with e1 e2
  subst e1 e2
  refine .inr ⟨g,0,rfl,h1,h2,fun i l hl=>?_⟩
  by_cases hi:i=k
  ·subst hi
   rw [List.getElem?_set_self hk] at hl
   injection hl with hl
   subst hl
   obtain ⟨r,hr⟩:=at_same h.n (List.getElem?_eq_getElem hk)
   refine ⟨none,0,?_,.inl rfl⟩
   rw [Nat.zero_add]
   have:=hc i r hr
   rw [Nat.zero_add] at this
   exact World.cell?_setCell_same' w _ _ (by rw [this];rfl)
  ·rw [List.getElem?_set_ne (fun e=>hi e.symm)] at hl
   obtain ⟨r,hr⟩:=at_same h.n hl
   have hro:=(h.r i r l hr hl).far2 (w':=w.setCell ⟨g,k,none⟩ (.slice none 0 0)) (fun a ha=>Below.heap_setCell _ _ _ _ (hsep a (mem_mAs.2 ⟨r,List.mem_of_getElem? hr,ha⟩)))
   refine ⟨r.s,r.c,?_,hro.ws⟩
   rw [World.cell?_setCell_other]
   ·rw [hc i r hr,hro.n]
   ·intro e
    injection e with e1 e2
    omega
set_option maxRecDepth 100000 in
set_option maxHeartbeats 8000000 in
theorem draw6_cb (p : Nat) (s : Option Addr) (n c : Nat) (w : World) (h : CBx158 w p s n c) :
  Calls Try.prog 36 #[.pointer (some ⟨p,0,none⟩)] w fun e w'=>∃ (sm:Option Addr) (cm:Nat) (m:List (List WD)) (sv:Option Addr) (cv:Nat) (l:List Int),e=.returned (.tuple #[.agg #[.slice sm m.length cm],.slice sv l.length cv])∧Drawn6 w w' p s n c sm m sv l:=by
 have hp:=h.lt
 have H0:Hid (CBx158 w p s n c):=h
 clear h
 go_enter Try.func36,Try.ntmps36
 go_wp2_with fail
 obtain ⟨W,hW⟩:∃ W,w.alloc (.cells #[.slice none 0 0] 30)=W:=⟨_,rfl⟩
 have R0:BM W w.heap.size (.slice none 0 0):=by rw [← hW];exact BM.new
 have K0:Below w.heap.size w W:=by rw [← hW];exact (Below.refl _ _).alloc (Nat.le_refl _) _
 have C0:CBx158 W p s n c:=by rw [← hW];exact H0.out.alloc _
 have S0:W.heap.size=w.heap.size+1:=by rw [← hW];simp
 rw [hW]
 clear hW
 refine (drawRight_cb p s n c W C0).mono ?_
 rintro e w1 ⟨sm,cm,m,v,l,rfl,hm1,ho1,hi1,hl1,hc1,hb1⟩
 obtain ⟨sv,cv,rfl⟩:=ownSl ho1
 have F:Hid (H6 w (w1.alloc (.cells #[.slice sm m.length cm] 30)) p s n c w.heap.size w1.heap.size sm cm m sv cv l):=by
  have z1:=hb1.size
  have a1:Below w1.heap.size w1 (w1.alloc (.cells #[.slice sm m.length cm] 30)):=(Below.refl w1.heap.size w1).alloc (Nat.le_refl _) _
  have hRp:w.heap.size≠p:=by omega
  refine ⟨hc1.keep a1,BM.new,R0.kept ((a1.block _ (by omega)).trans (hb1.block _ R0.lt hRp)),(hm1.below a1).low (by omega),ownLow' (ownKeep' ho1 (fun b e=>a1.block b (World.ownsRow.lt ho1 _ e).2)) (by omega),((But.of_below K0).trans ⟨hb1.os,hb1.tape,hb1.output,hb1.size,hb1.block⟩).alloc _,hp,by omega,rfl⟩
 have HI:Hid (Inv6 m 2000):=hi1
 have HL:Hid (l.length=24):=hl1
 have HF:Hid (Fit6 m):=by have h1:=hi1.n;have h2:=hi1.z;show m.length+szR m≤2024;omega
 have hRX:=F.out.RX
 clear hm1 ho1 hi1 hl1 hc1 hb1 C0 K0 S0 R0 H0
 go_wp2_with fail
 generalize w1.alloc (.cells #[.slice sm m.length cm] 30)=U at F ⊢
 generalize w1.heap.size=X at F hRX ⊢
 refine (F.out.belowC 20 U (by omega) (by omega)).mono ?_
 rintro e w2 ⟨t,rfl,t0,t1,hg⟩
 have G2:Hid (H6 w w2 p s n c w.heap.size X sm cm m sv cv l):=hg
 clear hg F
 by_cases e0:t=0
 ·subst e0
  go_wp2_with fail
  refine (G2.out.belowC 24 w2 (by omega) (by omega)).mono ?_
  rintro e w3 ⟨k,rfl,k0,k1,hg⟩
  have G3:Hid (H6 w w3 p s n c w.heap.size X sm cm m sv cv l):=hg
  clear hg G2
  obtain ⟨kn,rfl⟩:=Int.eq_ofNat_of_zero_le k0
  have hz3:=G3.out.bx.lt
  go_wp2_with fail
  refine (H6.pick w3.heap.size 3 [-1,0,9] _ (G3.out.grow ((Below.refl _ _).alloc (Nat.le_refl _) _)) rfl (by simp) (by simp) (by simp) hz3 (fun i hi=>by match i,hi with | 0,_=>simp [go_sem] | 1,_=>simp [go_sem] | 2,_=>simp [go_sem])).mono ?_
  rintro e w4 ⟨y,rfl,hg,-⟩
  have G4:Hid (H6 w w4 p s n c w.heap.size X sm cm m sv cv l):=hg
  clear hg G3 hz3
  have hkl:kn < l.length:=by have:=HL.out;omega
  obtain ⟨gv,cap,ev,-⟩:=World.ownsRow.form G4.out.ov (by have:=HL.out;omega)
  injection ev with ev1 ev2 ev3
  subst ev1
  have hgv:=(World.ownsRow.lt G4.out.ov gv rfl)
  obtain ⟨zo,ho⟩:∃ z,w4.cell? ⟨gv,kn,none⟩=some (.int .i64 z):=by
   rcases own_ints G4.out.ov with h | ⟨g',o',e',-,-,hc⟩
   ·rw [h] at hkl;simp at hkl
   ·injection e' with e'
    injection e' with e1 e2
    subst e1
    have:=hc kn hkl
    rw [← e2,Nat.zero_add] at this
    exact ⟨_,this⟩
  have hfz:w4.frozen? ⟨gv,kn,none⟩=false:=by
   obtain ⟨cs,hcs⟩:=own_type G4.out.ov (k:=gv) rfl
   simp [World.frozen?,hcs]
  have SF:Hid (Soft w4 (w4.setCell ⟨gv,kn,none⟩ (.int .i64 y))):=soft_set ho
  have x0:=SF.out.sl _ _ _ _ G4.out.bx.c0
  have y0:=SF.out.sl _ _ _ _ G4.out.rb.c0
  have yz:(w4.setCell ⟨gv,kn,none⟩ (.int .i64 y)).frozen? ⟨w.heap.size,0,none⟩=false:=by rw [World.frozen?_setCell];exact G4.out.rb.fz 0
  have b0:(0:Int)≤(kn:Int):=by omega
  have b1:(kn:Int) < (l.length:Int):=by omega
  have HG:Hid (w.heap.size+1≤gv):=hgv.1
  clear hgv ev2 ev3
  go_wp2
  obtain ⟨m',hm',hl',hz'⟩:=G4.out.mu.mem.soft SF.out
  obtain ⟨l',e',hv'⟩:=(own_ints G4.out.ov).soft SF.out
  have hsz:=SF.out.size
  refine bodyPost_ret (v:=.tuple #[.agg #[.slice sm m.length cm],.slice (some ⟨gv,0,none⟩) l.length cv]) (by simp [results,Try.results36,go_sem,y0]) rfl ⟨sm,cm,m',some ⟨gv,0,none⟩,cv,l',by rw [hl',e'],?_⟩
  exact fin6 (by rw [hsz];exact hm') (by rw [hsz];exact hv') (by have:=HF.out;unfold Fit6 at this ⊢;rw [hl',hz'];exact this) (by rw [e',HL.out];omega) (G4.out.cb.set (by show p < gv;have:=HG.out;omega)) (but_new G4.out.but (by show w.heap.size≤gv;have:=HG.out;omega)) hp rfl
 by_cases e1:t=1
 ·subst e1
  obtain ⟨gv,cap,ev,-⟩:=World.ownsRow.form G2.out.ov (by have:=HL.out;omega)
  injection ev with ev1 ev2 ev3
  subst ev1
  have hcap:l.length≤cv:=by
   rcases G2.out.ov.2 with ⟨h1,h2⟩ | ⟨g,cap,cur,hv,-,-,h3,-⟩
   ·cases h1
   ·injection hv with e1 e2 e3
    omega
  have x0:=G2.out.bx.c0
  have xl:=G2.out.bx.lt
  have y0:=G2.out.rb.c0
  have yz:=G2.out.rb.fz 0
  have b1:(1:Int)≤(l.length:Int):=by have:=HL.out;omega
  have b2:(l.length:Int)≤(cv:Int):=by omega
  have b3:1≤l.length:=by omega
  have b4:1 < cv:=by have:=HL.out;omega
  have b5:¬ cv=1:=by omega
  have b6:¬ cv≤1:=by omega
  have b7:¬ cv - 1=0:=by omega
  clear ev2 ev3
  go_wp2
  refine bodyPost_ret (v:=.tuple #[.agg #[.slice sm m.length cm],.slice (some ⟨gv,1,none⟩) (l.length - 1) (cv - 1)]) (by simp [results,Try.results36,go_sem,y0]) rfl ⟨sm,cm,m,some ⟨gv,1,none⟩,cv - 1,l.drop 1,by rw [List.length_drop],?_⟩
  have hv:=(own_ints G2.out.ov).tail
  rw [Nat.zero_add] at hv
  exact fin6 G2.out.mu.mem hv HF.out (by rw [List.length_drop,HL.out];omega) G2.out.cb G2.out.but hp rfl
 by_cases e3:t=3
 ·subst e3
  obtain ⟨gm,om,hsm⟩:∃ g o,sm=some ⟨g,o,none⟩:=by
   rcases G2.out.mu.mem with h | ⟨g,o,e,-⟩
   ·have:=HI.out.n;rw [h] at this;simp at this
   ·exact ⟨g,o,e⟩
  subst hsm
  have hcap:m.length≤cm:=by
   obtain ⟨S,hS⟩:=G2.out.mu
   rcases hS.row.2 with ⟨h1,h2⟩ | ⟨g,cap,cur,hv,-,-,h3,-⟩
   ·cases h1
   ·injection hv with e1 e2 e3
    have:=hS.n
    omega
  have x0:=G2.out.bx.c0
  have xl:=G2.out.bx.lt
  have xz:=G2.out.bx.fz 0
  have y0:=G2.out.rb.c0
  have yz:=G2.out.rb.fz 0
  have b1:(1:Int)≤(m.length:Int):=by have:=HI.out.n;omega
  have b2:(m.length:Int)≤(cm:Int):=by omega
  have b3:1≤m.length:=by omega
  have b4:1 < cm:=by have:=HI.out.n;omega
  have b5:¬ cm=1:=by omega
  have b6:¬ cm≤1:=by omega
  have b7:¬ cm - 1=0:=by omega
  have hne:¬ X=w.heap.size:=by omega
  have hne':¬ w.heap.size=X:=by omega
  go_wp2
  refine bodyPost_ret (v:=.tuple #[.agg #[.slice (some ⟨gm,om+1,none⟩) (m.length - 1) (cm - 1)],.slice sv l.length cv]) (by simp [results,Try.results36,go_sem,y0,hne,hne']) rfl ⟨some ⟨gm,om+1,none⟩,cm - 1,m.drop 1,sv,cv,l,by rw [List.length_drop],?_⟩
  have hm:=(G2.out.mu.box (u':=.slice (some ⟨gm,om+1,none⟩) (m.length - 1) (cm - 1)) G2.out.bx).mem.tail
  have hv:=own_ints (own_box (u':=.slice (some ⟨gm,om+1,none⟩) (m.length - 1) (cm - 1)) G2.out.ov G2.out.bx)
  exact fin6 hm hv (by have:=HF.out;have:=szR_drop m;unfold Fit6 at *;rw [List.length_drop];omega) (by rw [HL.out];omega) (G2.out.cb.set (by show p < X;omega)) (but_new G2.out.but (by show w.heap.size≤X;omega)) hp rfl
 by_cases e4:t=4
 ·subst e4
  obtain ⟨S,hS⟩:=G2.out.mu
  obtain ⟨gm,capm,evm,-⟩:=World.ownsRow.form hS.row (by have:=HI.out.n;have:=hS.n;omega)
  injection evm with em1 em2 em3
  subst em1
  have b1:(3:Int) < (m.length:Int):=by have:=HI.out.n;omega
  have hgm:=World.ownsRow.lt hS.row gm rfl
  have hrow:=hS.row
  rw [hS.n] at hrow
  have HCM:=World.ownsRow.cellAt hrow 3 (by have:=HI.out.n;omega)
  obtain ⟨r3,hr3⟩:∃ r,S[3]? =some r:=⟨_,List.getElem?_eq_getElem (by have:=HI.out.n;have:=hS.n;omega)⟩
  rw [List.getElem?_map,hr3] at HCM
  have HCM:w2.cell? ⟨gm,3,none⟩=some (.slice r3.s r3.vs.length r3.c):=HCM
  have HG:Hid (w.heap.size+1≤gm∧gm < w2.heap.size):=hgm
  have HS:Hid (OM w2 (w.heap.size+1) (.slice (some ⟨gm,0,none⟩) m.length cm) S m):=hS
  have hXg:gm≠X:=by
   intro e
   obtain ⟨cs,hcs⟩:=own_type hS.row (k:=gm) rfl
   rw [e,G2.out.bx.blk] at hcs
   injection hcs with hcs
   injection hcs with h1 h2
   revert h2
   decide
  have hXg':X≠gm:=fun e=>hXg e.symm
  have hRg:¬ w.heap.size=gm:=by have:=hgm.1;omega
  have hRg':¬ gm=w.heap.size:=by have:=hgm.1;omega
  have hfz:w2.frozen? ⟨gm,3,none⟩=false:=by
   obtain ⟨cs,hcs⟩:=own_type hS.row (k:=gm) rfl
   simp [World.frozen?,hcs]
  have x0:=G2.out.bx.c0
  have xl:=G2.out.bx.lt
  have y0:=G2.out.rb.c0
  have yz:=G2.out.rb.fz 0
  clear hrow hS hgm em2 em3
  go_wp2
  have hm:=HS.out.setNil (k:=3) (by have:=HI.out.n;omega)
  have x0':(w2.setCell ⟨gm,3,none⟩ (.slice none 0 0)).cell? ⟨X,0,none⟩=some (.slice (some ⟨gm,0,none⟩) m.length cm):=by rw [World.cell?_setCell_other];exact x0;intro e;injection e with e1 e2;exact hXg e1
  have y0':(w2.setCell ⟨gm,3,none⟩ (.slice none 0 0)).cell? ⟨w.heap.size,0,none⟩=some (.slice none 0 0):=by rw [World.cell?_setCell_other];exact y0;intro e;injection e with e1 e2;omega
  refine bodyPost_ret (v:=.tuple #[.agg #[.slice (some ⟨gm,0,none⟩) m.length cm],.slice sv l.length cv]) (by simp [results,Try.results36,go_sem,y0']) rfl ⟨some ⟨gm,0,none⟩,cm,m.set 3 [],sv,cv,l,by rw [List.length_set],?_⟩
  have hv:OwnN (w2.setCell ⟨gm,3,none⟩ (.slice none 0 0)) (w.heap.size+1) (.slice sv l.length cv) l:=ownKeep' G2.out.ov (fun b e=>Below.heap_setCell _ _ _ b (by
   obtain ⟨cs,hc⟩:=own_type G2.out.ov e
   obtain ⟨cs',hc'⟩:=own_type HS.out.row (k:=gm) rfl
   show b≠gm
   intro e'
   rw [e',hc'] at hc
   injection hc with hc
   injection hc with h1 h2
   revert h2
   decide))
  have hsz:(w2.setCell ⟨gm,3,none⟩ (.slice none 0 0)).heap.size=w2.heap.size:=by simp
  exact fin6 (by rw [hsz];exact hm) (own_ints hv) (by have:=HF.out;have:=szR_set0 m 3;unfold Fit6 at *;rw [List.length_set];omega) (by rw [HL.out];omega) (G2.out.cb.set (by show p < gm;have:=HG.out;omega)) (but_new G2.out.but (by show w.heap.size≤gm;have:=HG.out;omega)) hp rfl
 by_cases e2:t=2
 ·subst e2
  obtain ⟨gm,g1,o1,n1,c1,gx,ox,nx,cx,esm,hw,hn1,hnx,hgx⟩:=G2.out.way HI.out
  subst esm
  have W2:Hid (Way w2 p X gm m.length cm g1 o1 n1 c1 gx ox nx cx):=hw
  have WD2:Hid (Way w2.drew p X gm m.length cm g1 o1 n1 c1 gx ox nx cx):=hw.but (But.of_below (Below.drew (Below.refl _ _)))
  have HG:Hid (w.heap.size+1≤gx):=hgx
  clear hw hgx
  have GA:Hid (H6 w (w2.drew.alloc (.cells #[.int .i64 (-1),.int .i64 0,.int .i64 50] 3)) p s n c w.heap.size X (some ⟨gm,0,none⟩) cm m sv cv l):=(G2.out.grow (Below.drew (Below.refl _ _))).grow ((Below.refl _ _).alloc (Nat.le_refl _) _)
  have a1:=WD2.out.a
  have a2:=WD2.out.b
  have a3:=WD2.out.c
  have l1:=WD2.out.la.1
  have l2:=WD2.out.lb.1
  have l3:=WD2.out.lc.1
  have m1:X < w2.heap.size:=l1
  have m2:gm < w2.heap.size:=l2
  have m3:g1 < w2.heap.size:=l3
  have a1':w2.cell? ⟨X,0,none⟩=some (.slice (some ⟨gm,0,none⟩) m.length cm):=W2.out.a
  have a2':=W2.out.b
  have a3':=W2.out.c
  have b1:(1:Int) < (m.length:Int):=by have:=HI.out.n;omega
  have b2:(0:Int) < (n1:Int):=by omega
  have b3:(2:Int) < (nx:Int):=by omega
  have b4:0 < n1:=by omega
  have b5:¬ n1=0:=by omega
  have b6:2 < nx:=by omega
  have b7:¬ nx≤2:=by omega
  go_wp2_with fail
  go_region_law (first | (refine step_call 33 #[.pointer (some ⟨p,0,none⟩),.slice (some ⟨w2.heap.size,0,none⟩) 3 3] (by rfl) _ _ (by rfl) (by simp [go_sem]) entPick ?_;refine (H6.pick w2.heap.size 3 [-1,0,50] (w2.drew.alloc (.cells #[.int .i64 (-1),.int .i64 0,.int .i64 50] 3)) GA.out rfl (by simp) (by simp) (by simp) m1 (fun i hi=>by match i,hi with | 0,_=>simp [go_sem] | 1,_=>simp [go_sem] | 2,_=>simp [go_sem])).mono ?_;rintro e w4 ⟨y,rfl,hg,hbp⟩;refine ⟨_,rfl,?_⟩;have G4:=(show Hid (H6 w w4 p s n c w.heap.size X (some ⟨gm,0,none⟩) cm m sv cv l) from hg);have W4:=(show Hid (Way w4 p X gm m.length cm g1 o1 n1 c1 gx ox nx cx) from (WD2.out.but (But.of_below ((Below.refl _ _).alloc (Nat.le_refl _) _))).but hbp);clear hg;have v1:=W4.out.a;have v2:=W4.out.b;have v3:=W4.out.c;obtain ⟨zo,v4⟩:=W4.out.d;have v5:=W4.out.f))
  all_goals
   have SF:Hid (Soft w4 (w4.setCell ⟨gx,ox+2,none⟩ (.int .i64 y))):=soft_set v4
   have x0:=SF.out.sl _ _ _ _ G4.out.bx.c0
   have y0:=SF.out.sl _ _ _ _ G4.out.rb.c0
   have yz:(w4.setCell ⟨gx,ox+2,none⟩ (.int .i64 y)).frozen? ⟨w.heap.size,0,none⟩=false:=by rw [World.frozen?_setCell];exact G4.out.rb.fz 0
   clear a1 a2 a3 l1 l2 l3 m1 m2 m3 a1' a2' a3' v1 v2 v3 v4 v5
   go_wp2
   obtain ⟨m',hm',hl',hz'⟩:=G4.out.mu.mem.soft SF.out
   obtain ⟨l',e',hv'⟩:=(own_ints G4.out.ov).soft SF.out
   have hsz:=SF.out.size
   refine bodyPost_ret (v:=.tuple #[.agg #[.slice (some ⟨gm,0,none⟩) m.length cm],.slice sv l.length cv]) (by simp [results,Try.results36,go_sem,y0]) rfl ⟨some ⟨gm,0,none⟩,cm,m',sv,cv,l',by rw [hl',e'],?_⟩
   exact fin6 (by rw [hsz];exact hm') (by rw [hsz];exact hv') (by have:=HF.out;unfold Fit6 at this ⊢;rw [hl',hz'];exact this) (by rw [e',HL.out];omega) (G4.out.cb.set (by show p < gx;have:=HG.out;omega)) (but_new G4.out.but (by show w.heap.size≤gx;have:=HG.out;omega)) hp rfl
 have n0:(t==0)=false:=by simpa using e0
 have n1:(t==1)=false:=by simpa using e1
 have n2:(t==2)=false:=by simpa using e2
 have n3:(t==3)=false:=by simpa using e3
 have n4:(t==4)=false:=by simpa using e4
 have x0:=G2.out.bx.c0
 have y0:=G2.out.rb.c0
 have yz:=G2.out.rb.fz 0
 have xl:=G2.out.bx.lt
 go_wp2
 exact bodyPost_ret (v:=.tuple #[.agg #[.slice sm m.length cm],.slice sv l.length cv]) (by simp [results,Try.results36,go_sem,y0]) rfl ⟨sm,cm,m,sv,cv,l,rfl,fin6 G2.out.mu.mem (own_ints G2.out.ov) HF.out (by rw [HL.out];omega) G2.out.cb G2.out.but hp rfl⟩
end Go.Proofs.Ytkhjhibigldcgaa
