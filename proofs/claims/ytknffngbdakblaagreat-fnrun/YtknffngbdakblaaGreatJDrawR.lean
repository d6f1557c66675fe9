/- l1Draw and DrawProgOk: a program is drawn and perhaps spoiled; nothing that was there is turned. Conditions: the bytes lie in memory as the reading says. -/
import Derived.Test.YtknffngbdakblaaGreatJG00
import Derived.Test.YtknffngbdakblaaGreatJG19
import Derived.Test.YtknffngbdakblaaGreatJG18
import Derived.Test.YtknffngbdakblaaGreatJG01
import Derived.Test.YtknffngbdakblaaGreatJG16
import Derived.Test.YtknffngbdakblaaGreatJDraw2
namespace Go.Proofs.YtknffngbdakblaaGreat
set_option linter.unusedSimpArgs false
set_option linter.unusedVariables false
set_option maxRecDepth 100000
open Go.RowKit Go.Deep
theorem ps_new (w w1 : World) (p n c R : Nat) (s : Option Addr) (v0 v1 : Value) (hc : CB w1 p s n c) (hb : But p w w1) (r0 : (w1.cell? ⟨R, 0, none⟩).isSome = true) (r1 : (w1.cell? ⟨R, 1, none⟩).isSome = true) (fR : ∀ j, w1.frozen? ⟨R, j, none⟩ = false) (pR : p < R) (hR : R < w1.heap.size) (old : w.heap.size ≤ R) :
  Ps w (w1.alloc (.cells #[v0,v1] 27)) p s n c R w1.heap.size v0 v1:=by
 have ka:Below w1.heap.size w1 (w1.alloc (.cells #[v0,v1] 27)):=(Below.refl _ _).alloc (Nat.le_refl _) _
 exact ⟨hc.alloc _,hb.alloc _,by simp [go_sem],by simp [go_sem],fun j=>by simp [go_sem],by rw [ka.cell (p:=⟨R,0,none⟩) hR];exact r0,by rw [ka.cell (p:=⟨R,1,none⟩) hR];exact r1,fun j=>by rw [ka.frozen (p:=⟨R,j,none⟩) hR];exact fR j,by simp,⟨_,(0,0),heap_alloc_new w1 _⟩,pR,hR,old⟩
theorem own_setk {w:World} {base n g' k:Nat} {v:Value} (h:OwnSx111 w base v n) (hE:∃ cur fr,w.heap[g']? =some (.cells cur 85 fr)) (z:Int):OwnSx111 (w.setCell ⟨g',k,none⟩ (.int .i64 z)) base v n∧∃ cur fr,(w.setCell ⟨g',k,none⟩ (.int .i64 z)).heap[g']? =some (.cells cur 85 fr):=by
 obtain ⟨cur,fr,hk⟩:=hE
 exact ⟨h.set hk (by decide) z,_,fr,heap_set hk⟩
theorem own_set5v {w:World} {base n g':Nat} {v:Value} (h:OwnSx111 w base v n) (hE:∃ cur fr,w.heap[g']? =some (.cells cur 85 fr)) (y0 y1 y2 y3 y4:Int):OwnSx111 (set5v w g' (.int .i64 y0) (.int .i64 y1) (.int .i64 y2) (.int .i64 y3) (.int .i64 y4)) base v n:=by
 obtain ⟨a0,b0⟩:=own_setk (k:=0) h hE y0
 obtain ⟨a1,b1⟩:=own_setk (k:=1) a0 b0 y1
 obtain ⟨a2,b2⟩:=own_setk (k:=2) a1 b1 y2
 obtain ⟨a3,b3⟩:=own_setk (k:=3) a2 b2 y3
 exact (own_setk (k:=4) a3 b3 y4).1
set_option maxRecDepth 100000 in
set_option maxHeartbeats 4000000 in
theorem draw_cb2 (p : Nat) (s : Option Addr) (n c : Nat) (w : World) (h : CB w p s n c) :
  Calls Tryz.prog 42 #[.pointer (some ⟨p,0,none⟩)] w fun e w'=>∃ (v0 v1:Value) (a b:Nat),e=.returned (.agg #[v0,v1])∧OwnC w' w.heap.size v0 a∧OwnSx111 w' w.heap.size v1 b∧a≤6∧b≤4∧But p w w'∧CB w' p s n c:=by
 have hp:=h.lt
 have H0:Hid (CB (w.alloc (.cells #[.slice none 0 0,.slice none 0 0] 27)) p s n c):=h.alloc _
 clear h
 go_enter Tryz.func42,Tryz.ntmps42
 go_wp2_with fail
 refine (drawRight_cb p s n c _ H0.out).mono ?_
 rintro e w1 ⟨v0,v1,a,b,rfl,hC,hS,a1,a2,b1,b2,hc1,hb1⟩
 simp only [World.size_alloc] at hC hS
 obtain ⟨g0,cap0,rfl,hg0,hg0'⟩:=hC.form (by omega)
 obtain ⟨g1,cap1,rfl,hg1,hg1'⟩:=hS.form (by omega)
 have hz1:w.heap.size+1≤w1.heap.size:=by have:=hb1.size;simpa using this
 have r0:(w1.cell? ⟨w.heap.size,0,none⟩).isSome=true:=by rw [hb1.cell (p:=⟨w.heap.size,0,none⟩) (by simp) (by show w.heap.size≠p;omega)];simp [go_sem]
 have r1:(w1.cell? ⟨w.heap.size,1,none⟩).isSome=true:=by rw [hb1.cell (p:=⟨w.heap.size,1,none⟩) (by simp) (by show w.heap.size≠p;omega)];simp [go_sem]
 have fR:∀ j,w1.frozen? ⟨w.heap.size,j,none⟩=false:=fun j=>by rw [hb1.frozen (p:=⟨w.heap.size,j,none⟩) (by simp) (by show w.heap.size≠p;omega)];simp [go_sem]
 have P1:Hid (Ps w (w1.alloc (.cells #[.slice (some ⟨g0,0,none⟩) a cap0,.slice (some ⟨g1,0,none⟩) b cap1] 27)) p s n c w.heap.size w1.heap.size (.slice (some ⟨g0,0,none⟩) a cap0) (.slice (some ⟨g1,0,none⟩) b cap1)):=ps_new w w1 p n c w.heap.size s _ _ hc1 (((But.refl _ _).alloc _).trans hb1) r0 r1 fR hp (by omega) (Nat.le_refl _)
 have ka:Below w1.heap.size w1 (w1.alloc (.cells #[.slice (some ⟨g0,0,none⟩) a cap0,.slice (some ⟨g1,0,none⟩) b cap1] 27)):=(Below.refl _ _).alloc (Nat.le_refl _) _
 have C1:Hid (OwnC (w1.alloc (.cells #[.slice (some ⟨g0,0,none⟩) a cap0,.slice (some ⟨g1,0,none⟩) b cap1] 27)) (w.heap.size+1) (.slice (some ⟨g0,0,none⟩) a cap0) a):=hC.keep ka
 have S1:Hid (OwnSx111 (w1.alloc (.cells #[.slice (some ⟨g0,0,none⟩) a cap0,.slice (some ⟨g1,0,none⟩) b cap1] 27)) (w.heap.size+1) (.slice (some ⟨g1,0,none⟩) b cap1) b):=hS.keep ka
 have X1:Hid (OwnSx111 w1 (w.heap.size+1) (.slice (some ⟨g1,0,none⟩) b cap1) b):=hS
 clear r0 r1 fR hc1 hb1 hC hS ka H0
 go_wp2_with fail
 refine (below_cb p s n c 20 _ P1.out.cb (by omega) (by omega)).mono ?_
 rintro e w3 ⟨t,rfl,t0,t1,hc3,hb3⟩
 have P3:Hid (Ps w w3 p s n c w.heap.size w1.heap.size (.slice (some ⟨g0,0,none⟩) a cap0) (.slice (some ⟨g1,0,none⟩) b cap1)):=P1.out.step hc3 hb3
 have C3:Hid (OwnC w3 (w.heap.size+1) (.slice (some ⟨g0,0,none⟩) a cap0) a):=C1.out.but hb3 (by omega)
 have S3:Hid (OwnSx111 w3 (w.heap.size+1) (.slice (some ⟨g1,0,none⟩) b cap1) b):=S1.out.but hb3 (by omega)
 have l3:=P3.out.lt
 have X1eq:Hid (w3.cell? ⟨g1,0,none⟩=w1.cell? ⟨g1,0,none⟩):=(hb3.cell (p:=⟨g1,0,none⟩) (by show g1 < _;simp;omega) (by show g1≠p;omega)).trans ((Below.refl w1.heap.size w1).alloc (Nat.le_refl _) _ |>.cell (p:=⟨g1,0,none⟩) hg1')
 clear hc3 hb3 P1 C1 S1
 have ht:t=0∨t=1∨t=2∨t=3∨3 < t:=by omega
 have i1:(1:Int)≤(a:Int):=by omega
 have i2:(0:Int) < (a:Int):=by omega
 have i3:(0:Int) < (b:Int):=by omega
 have i4:0 < a:=by omega
 have i5:0 < b:=by omega
 have ne0:g0≠w1.heap.size:=by omega
 have ne1:g0≠w.heap.size:=by omega
 have ne2:w1.heap.size≠w.heap.size:=by omega
 rcases ht with rfl | rfl | rfl | rfl | ht
 ·have c0:=P3.out.c0
  have kl:Below w3.heap.size w3 (w3.alloc (.cells #[.int .i64 0,.int .i64 5] 3)):=(Below.refl _ _).alloc (Nat.le_refl _) _
  have KL:Hid (Below w3.heap.size w3 ((w3.alloc (.cells #[.int .i64 0,.int .i64 5] 3)).drew)):=kl.drew
  clear kl
  go_wp2_with fail
  first | go_region_law (refine step_call 41 #[.pointer (some ⟨p,0,none⟩),.slice (some ⟨w3.heap.size,0,none⟩) 2 2] (by rfl) _ _ (by rfl) (by simp [go_sem]) ent_pick ?_;refine (pick_cb p s n c w3.heap.size 2 [0,5] ((w3.alloc (.cells #[.int .i64 0,.int .i64 5] 3)).drew) (P3.out.cb.keep KL.out) rfl (by simp) (by simp) (by simp) (by omega) (fun i hi=>by match i,hi with | 0,_=>simp [go_sem] | 1,_=>simp [go_sem])).mono ?_;rintro e w5 ⟨z,rfl,-,hc5,hb5⟩;have hb5':=(But.of_below (g:=p) KL.out).trans hb5;have P5:=P3.out.step hc5 hb5';have d0:=P5.c0;have l5:=P5.lt;have C5:=C3.out.but hb5' (by omega);obtain ⟨y,d1,d2⟩:=C5.at (k:=0) (by omega);refine ⟨_,rfl,?_⟩) | fail
  all_goals
   have S5:=S3.out.but hb5' (by omega)
   obtain ⟨cur,fr,hk⟩:∃ cur fr,w5.heap[g0]? =some (.cells cur 3 fr):=by obtain ⟨xs,q1,-⟩:=C5;exact own_type q1
   have C6:Hid (OwnC (w5.setCell ⟨g0,0,none⟩ (.int .i64 z)) (w.heap.size+1) (.slice (some ⟨g0,0,none⟩) a cap0) a):=C5.set z
   have S6:Hid (OwnSx111 (w5.setCell ⟨g0,0,none⟩ (.int .i64 z)) (w.heap.size+1) (.slice (some ⟨g1,0,none⟩) b cap1) b):=S5.set hk (by decide) z
   have B6:Hid (But p w (w5.setCell ⟨g0,0,none⟩ (.int .i64 z))∧CB (w5.setCell ⟨g0,0,none⟩ (.int .i64 z)) p s n c):=⟨but_set1 P5.but (by omega),(P5.cb).set (Nat.lt_of_lt_of_le P3.out.pR (by first | omega | (dsimp only;omega)))⟩
   have d3:=P5.c1
   obtain ⟨q0,e0⟩:=Option.isSome_iff_exists.1 P5.r0
   obtain ⟨q1,e1⟩:=Option.isSome_iff_exists.1 P5.r1
   have fz:=P5.fR
   clear C5 S5 hk hb5 hb5' hc5
   go_wp2
   exact bodyPost_ret (v:=.agg #[.slice (some ⟨g0,0,none⟩) a cap0,.slice (some ⟨g1,0,none⟩) b cap1]) (by simp [results,Tryz.results42,go_sem,e0,e1]) rfl ⟨_,_,a,b,rfl,((C6.out.low (by simp)).low (by simp)).mono (by omega),((S6.out.low (by simp)).low (by simp)).mono (by omega),by omega,by omega,but_set1 (but_set1 B6.out.1 (Nat.le_refl _)) (Nat.le_refl _),(B6.out.2.set (a:=⟨w.heap.size,0,none⟩) P3.out.pR).set (a:=⟨w.heap.size,1,none⟩) P3.out.pR⟩
 ·have c1:=P3.out.c1
  obtain ⟨g',m,cap',f0,m1,m2,hI,hg',hlt'⟩:=S3.out.at (k:=0) i5
  have hgw:g' < w1.heap.size:=by
   obtain ⟨g'',m'',cap'',f0',-,-,-,-,q⟩:=X1.out.at (k:=0) i5
   have e:=X1eq.out
   rw [f0] at e
   rw [f0'] at e
   cases e
   exact q
  have hgp:g'≠p:=by omega
  have j0:0 < m:=by omega
  obtain ⟨z0,z1,z2,z3,z4,k0,k1,k2,k3,k4,-⟩:=hI.at (k:=0) j0
  simp only [Nat.zero_mul,Nat.zero_add] at k0 k1 k2 k3 k4
  have HI:Hid (OwnI w3 (w.heap.size+1) (.slice (some ⟨g',0,none⟩) m cap') m):=hI
  clear hI
  go_wp2_with fail
  first | go_region_law (refine step_call 60 #[.pointer (some ⟨p,0,none⟩),.agg #[.int .i64 z0,.int .i64 z1,.int .i64 z2,.int .i64 z3,.int .i64 z4]] (by rfl) _ _ (by rfl) (by simp [go_sem]) ent_spoil ?_;refine (spoil_cb p s n c z0 z1 z2 z3 z4 w3.drew P3.out.drew.cb).mono ?_;rintro e w5 ⟨y0,y1,y2,y3,y4,rfl,hc5,hb5⟩;have P5:=P3.out.drew.step hc5 hb5;have d1:=P5.c1;have l5:=P5.lt;have d2:=(hb5.cell (p:=⟨g1,0,none⟩) (by show g1 < w3.heap.size;omega) (by show g1≠p;omega)).trans f0;have I5:=(HI.out.keep (w':=w3.drew) (Below.drew (Below.refl _ _))).but hb5 (by omega);obtain ⟨x0,x1,x2,x3,x4,h0,h1,h2,h3,h4,hfz⟩:=I5.at (k:=0) j0;simp only [Nat.zero_mul,Nat.zero_add] at h0 h1 h2 h3 h4 hfz;have z0':=hfz 0 (by omega);have z1':=hfz 1 (by omega);have z2':=hfz 2 (by omega);have z3':=hfz 3 (by omega);have z4':=hfz 4 (by omega);clear hfz;refine ⟨_,rfl,?_⟩) | fail
  all_goals
   have ne3:g'≠w1.heap.size:=by omega
   have ne4:g'≠w.heap.size:=by omega
   have C5:=(C3.out.keep (w':=w3.drew) (Below.drew (Below.refl _ _))).but hb5 (by omega)
   have S5:=(S3.out.keep (w':=w3.drew) (Below.drew (Below.refl _ _))).but hb5 (by omega)
   have hk:∃ cur fr,w5.heap[g']? =some (.cells cur 85 fr):=by obtain ⟨xs,q1,-⟩:=I5;exact own_type q1
   have C6:Hid (OwnC (set5v w5 g' (.int .i64 y0) (.int .i64 y1) (.int .i64 y2) (.int .i64 y3) (.int .i64 y4)) (w.heap.size+1) (.slice (some ⟨g0,0,none⟩) a cap0) a):=((((C5.set y0).set y1).set y2).set y3).set y4
   have S6:Hid (OwnSx111 (set5v w5 g' (.int .i64 y0) (.int .i64 y1) (.int .i64 y2) (.int .i64 y3) (.int .i64 y4)) (w.heap.size+1) (.slice (some ⟨g1,0,none⟩) b cap1) b):=own_set5v S5 hk y0 y1 y2 y3 y4
   have B6:Hid (But p w (set5v w5 g' (.int .i64 y0) (.int .i64 y1) (.int .i64 y2) (.int .i64 y3) (.int .i64 y4))∧CB (set5v w5 g' (.int .i64 y0) (.int .i64 y1) (.int .i64 y2) (.int .i64 y3) (.int .i64 y4)) p s n c):=⟨but_set5v P5.but (by omega),(((((P5.cb).set (Nat.lt_of_lt_of_le P3.out.pR (by first | omega | (dsimp only;omega)))).set (Nat.lt_of_lt_of_le P3.out.pR (by first | omega | (dsimp only;omega)))).set (Nat.lt_of_lt_of_le P3.out.pR (by first | omega | (dsimp only;omega)))).set (Nat.lt_of_lt_of_le P3.out.pR (by first | omega | (dsimp only;omega)))).set (Nat.lt_of_lt_of_le P3.out.pR (by first | omega | (dsimp only;omega)))⟩
   have d3:=P5.c0
   obtain ⟨q0,e0⟩:=Option.isSome_iff_exists.1 P5.r0
   obtain ⟨q1,e1⟩:=Option.isSome_iff_exists.1 P5.r1
   have fz:=P5.fR
   clear C5 S5 hk hb5 hc5 I5 f0 k0 k1 k2 k3 k4 d2 z0' z1' z2' z3' z4'
   go_wp2
   exact bodyPost_ret (v:=.agg #[.slice (some ⟨g0,0,none⟩) a cap0,.slice (some ⟨g1,0,none⟩) b cap1]) (by simp [results,Tryz.results42,go_sem,e0,e1,ne4]) rfl ⟨_,_,a,b,rfl,((C6.out.low (by simp)).low (by simp)).mono (by omega),((S6.out.low (by simp)).low (by simp)).mono (by omega),by omega,by omega,but_set1 (but_set1 B6.out.1 (Nat.le_refl _)) (Nat.le_refl _),(B6.out.2.set (a:=⟨w.heap.size,0,none⟩) P3.out.pR).set (a:=⟨w.heap.size,1,none⟩) P3.out.pR⟩
 ·have c0:=P3.out.c0
  have c1:=P3.out.c1
  have fP:=P3.out.fP
  obtain ⟨cur,fr,hk⟩:=P3.out.kind
  have C6:Hid (OwnC (w3.setCell ⟨w1.heap.size,1,none⟩ (.slice none 0 0)) (w.heap.size+1) (.slice (some ⟨g0,0,none⟩) a cap0) a):=C3.out.kind hk (by decide)
  have B6:Hid (But p w (w3.setCell ⟨w1.heap.size,1,none⟩ (.slice none 0 0))∧CB (w3.setCell ⟨w1.heap.size,1,none⟩ (.slice none 0 0)) p s n c):=⟨but_set1 P3.out.but (by omega),(P3.out.cb).set (Nat.lt_of_lt_of_le P3.out.pR (by first | omega | (dsimp only;omega)))⟩
  obtain ⟨q0,e0⟩:=Option.isSome_iff_exists.1 P3.out.r0
  obtain ⟨q1,e1⟩:=Option.isSome_iff_exists.1 P3.out.r1
  have fz:=P3.out.fR
  clear hk
  go_wp2
  exact bodyPost_ret (v:=.agg #[.slice (some ⟨g0,0,none⟩) a cap0,.slice none 0 0]) (by simp [results,Tryz.results42,go_sem,e0,e1]) rfl ⟨_,_,a,0,rfl,((C6.out.low (by simp)).low (by simp)).mono (by omega),(((OwnSx111.nil _ (w.heap.size+1)).low (by simp)).low (by simp)).mono (by omega),by omega,by omega,but_set1 (but_set1 B6.out.1 (Nat.le_refl _)) (Nat.le_refl _),(B6.out.2.set (a:=⟨w.heap.size,0,none⟩) P3.out.pR).set (a:=⟨w.heap.size,1,none⟩) P3.out.pR⟩
 ·have c0:=P3.out.c0
  go_wp2_with (at_builtin;refine app_ones rfl _ _ rfl w3 (w.heap.size+1) a _ rfl C3.out rfl (by omega) (by omega) ?_;intro g cap w5 ho5 hg5 hr5 hrow5;have P5:=(P3.out.alloc _).grown hg5 hr5 hrow5 (by decide);have S5:=(S3.out.keep ((Below.refl _ _).alloc (Nat.le_refl _) _)).far hg5 hrow5 (by decide) (by decide);obtain ⟨cur,fr,hk⟩:=P5.kind;have C6:Hid (OwnC (w5.setCell ⟨w1.heap.size,0,none⟩ (.slice (some ⟨g,0,none⟩) (a+3) cap)) (w.heap.size+1) (.slice (some ⟨g,0,none⟩) (a+3) cap) (a+3)):=ho5.kind hk (by decide);have S6:Hid (OwnSx111 (w5.setCell ⟨w1.heap.size,0,none⟩ (.slice (some ⟨g,0,none⟩) (a+3) cap)) (w.heap.size+1) (.slice (some ⟨g1,0,none⟩) b cap1) b):=S5.kind hk (by decide) (by decide);have B6:Hid (But p w (w5.setCell ⟨w1.heap.size,0,none⟩ (.slice (some ⟨g,0,none⟩) (a+3) cap))∧CB (w5.setCell ⟨w1.heap.size,0,none⟩ (.slice (some ⟨g,0,none⟩) (a+3) cap)) p s n c):=⟨but_set1 P5.but (by omega),(P5.cb).set (Nat.lt_of_lt_of_le P3.out.pR (by first | omega | (dsimp only;omega)))⟩;have d0:=P5.c0;have d1:=P5.c1;have d2:=P5.fP;obtain ⟨q0,e0⟩:=Option.isSome_iff_exists.1 P5.r0;obtain ⟨q1,e1⟩:=Option.isSome_iff_exists.1 P5.r1;have fz:=P5.fR;clear hk S5 hg5 hr5 hrow5 ho5 c0)
  exact bodyPost_ret (v:=.agg #[.slice (some ⟨g,0,none⟩) (a+3) cap,.slice (some ⟨g1,0,none⟩) b cap1]) (by simp [results,Tryz.results42,go_sem,e0,e1]) rfl ⟨_,_,(a+3),b,rfl,((C6.out.low (by simp)).low (by simp)).mono (by omega),((S6.out.low (by simp)).low (by simp)).mono (by omega),by omega,by omega,but_set1 (but_set1 B6.out.1 (Nat.le_refl _)) (Nat.le_refl _),(B6.out.2.set (a:=⟨w.heap.size,0,none⟩) P3.out.pR).set (a:=⟨w.heap.size,1,none⟩) P3.out.pR⟩
 ·have n0:(t==0)=false:=by simp;omega
  have n1:(t==1)=false:=by simp;omega
  have n2:(t==2)=false:=by simp;omega
  have n3:(t==3)=false:=by simp;omega
  have c0:=P3.out.c0
  have c1:=P3.out.c1
  obtain ⟨q0,e0⟩:=Option.isSome_iff_exists.1 P3.out.r0
  obtain ⟨q1,e1⟩:=Option.isSome_iff_exists.1 P3.out.r1
  have fz:=P3.out.fR
  go_wp2
  exact bodyPost_ret (v:=.agg #[.slice (some ⟨g0,0,none⟩) a cap0,.slice (some ⟨g1,0,none⟩) b cap1]) (by simp [results,Tryz.results42,go_sem,e0,e1]) rfl ⟨_,_,a,b,rfl,((C3.out.low (by simp)).low (by simp)).mono (by omega),((S3.out.low (by simp)).low (by simp)).mono (by omega),by omega,by omega,but_set1 (but_set1 P3.out.but (Nat.le_refl _)) (Nat.le_refl _),(P3.out.cb.set (a:=⟨w.heap.size,0,none⟩) P3.out.pR).set (a:=⟨w.heap.size,1,none⟩) P3.out.pR⟩
end Go.Proofs.YtknffngbdakblaaGreat
