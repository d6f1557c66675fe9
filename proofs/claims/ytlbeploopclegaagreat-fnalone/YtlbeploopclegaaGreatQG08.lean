/- What Load is made of, in the program and in the specification. Conditions: memories that are counted, views of at most 2^20. Memories copied by the program: sameWrites, sameMemory. Conditions: they are counted. Memories copied by the program: sameMemory. Conditions: they are counted. -/
import Derived.Test.YtlbeploopclegaaGreatQG00
import Derived.Test.YtlbeploopclegaaGreatQG01
import Derived.Test.YtlbeploopclegaaGreatQG05
import Derived.Test.YtlbeploopclegaaGreatQG04
import Derived.Test.YtlbeploopclegaaGreatQG06
namespace Go.Proofs.YtlbeploopclegaaGreat
section
set_option linter.unusedSimpArgs false
set_option linter.unusedVariables false
set_option maxRecDepth 100000
open Go.RowKit
def rightB (m:List (List WD)) (l:List Int) (cell:Int):Bool:=memB m&&viewB m l&&decide (0≤cell∧cell < 24)
theorem mx_comm (a b:Int):mx a b=mx b a:=by unfold mx;split<;>split<;>omega
structure Rt (m:List (List WD)) (l:List Int) (k:Nat) (r:List WD):Prop where
 hk:k < 24
 hr:m[k]? =some r
 n1:1≤r.length
 n2:r.length≤4000
 hl:l.length=24
 hm:m.length=24
 v0:0≤l.getD k 0
 v1:l.getD k 0 < (r.length:Int)
 hw:∀ (i:Nat) (x:WD),r[i]? =some x→x.vw.length=24
theorem right_of {m:List (List WD)} {l:List Int} {cell:Int} (h:rightB m l cell=true):∃ (k:Nat) (r:List WD),cell=k∧Rt m l k r:=by
 unfold rightB at h
 rw [Bool.and_eq_true,Bool.and_eq_true,decide_eq_true_eq] at h
 obtain ⟨⟨h1,h2⟩,h3⟩:=h
 unfold memB at h1
 rw [Bool.and_eq_true,decide_eq_true_eq,List.all_eq_true] at h1
 unfold viewB at h2
 rw [decide_eq_true_eq] at h2
 obtain ⟨k,rfl⟩:∃ k:Nat,cell=k:=⟨cell.toNat,by omega⟩
 have hk:k < 24:=by omega
 obtain ⟨r,hr⟩:∃ r,m[k]? =some r:=⟨_,List.getElem?_eq_getElem (by omega)⟩
 have h4:=h1.2 r (List.mem_of_getElem? hr)
 unfold rowB at h4
 rw [Bool.and_eq_true,decide_eq_true_eq,List.all_eq_true] at h4
 have h5:=h2.2 k (by omega)
 have e:m.getD k []=r:=by rw [List.getD_eq_getElem?_getD,hr];rfl
 rw [e] at h5
 refine ⟨k,r,rfl,hk,hr,h4.1.1,h4.1.2,by omega,h1.1,h5.1,h5.2,fun i x hx=>?_⟩
 have h6:=h4.2 x (List.mem_of_getElem? hx)
 unfold viewB at h6
 rw [decide_eq_true_eq] at h6
 omega
/- what a memory reads does not lie in block g -/
def MemAv (w:World) (s:Option Addr) (m:List (List WD)) (g:Nat):Prop:=
 ∀ gm om,s=some ⟨gm,om,none⟩→gm≠g∧∀ k gr or_ n1 c1,k < m.length→w.cell? ⟨gm,om+k,none⟩=some (.slice (some ⟨gr,or_,none⟩) n1 c1)→0 < n1→gr≠g∧∀ j g2 o2 n2 c2,j < n1→w.cell? ⟨gr,or_+j * 2+1,none⟩=some (.slice (some ⟨g2,o2,none⟩) n2 c2)→0 < n2→g2≠g
theorem IntsR.off {w w':World} {lo hi:Nat} {s:Option Addr} {l:List Int} (h:IntsR w lo hi s l) (hb:∀ g' o',s=some ⟨g',o',none⟩→0 < l.length→w'.heap[g']? =w.heap[g']?):IntsR w' lo hi s l:=by
 rcases h with h | ⟨g,o,hs,h1,h2,hc⟩
 ·exact .inl h
 ·refine .inr ⟨g,o,hs,h1,h2,fun i hi=>?_⟩
  exact (World.cell?_of_block (w:=w) (hb g o hs (by omega))).trans (hc i hi)
set_option maxHeartbeats 2000000 in
theorem load_any (s : Option Addr) (c lo hi base g cap : Nat) (m : List (List WD)) (l : List Int) (k : Nat) (r : List WD) (late : Int) (hold : Bool) (j : Nat) (x : WD) (w : World) (h : MemR w lo hi s m) (ho : OwnN w base (.slice (some ⟨g, 0, none⟩) l.length cap) l) (hB : hi ≤ w.heap.size) (hav : MemAv w s m g) (hr : Rt m l k r)
  (hlate:late≤9223372036854775807) (hj:mx (l.getD k 0) ((r.length:Int) - 1 - mx late 0)=j) (hx:r[j]? =some x):
  Calls Tryz.prog 168 #[.slice (some ⟨g,0,none⟩) l.length cap,.agg #[.slice s m.length c],.int .i64 k,.int .i64 late,.bool hold] w fun e w'=>e=.returned (.int .i64 x.v)∧OwnN w' base (.slice (some ⟨g,0,none⟩) l.length cap) (if hold=true then joinL (l.set k j) x.vw else l.set k j)∧Exc g (g+1) w w':=by
 have hg:=(World.ownsRow.lt ho g rfl).2
 obtain ⟨gm,om,s1,c1,es,a1,a2,a3,a4⟩:=h.row hr.hr
 subst es
 obtain ⟨gr,or_,s2,c2,es,b1,b2,b3,b4,b5⟩:=a4.at hx
 subst es
 obtain ⟨av1,av2⟩:=hav gm om rfl
 obtain ⟨av3,av4⟩:=av2 k _ _ _ _ (by have:=hr.hk;have:=hr.hm;omega) a3 (by have:=(List.getElem?_eq_some_iff.1 hx).1;omega)
 have av5:∀ g' o',s2=some ⟨g',o',none⟩→0 < x.vw.length→g'≠g:=fun g' o' e hp=>by subst e;exact av4 j g' o' _ _ (List.getElem?_eq_some_iff.1 hx).1 b4 hp
 have HAV:Hid (∀ g' o',s2=some ⟨g',o',none⟩→0 < x.vw.length→g'≠g):=av5
 clear av2 av4 av5
 have hk:=hr.hk
 have hll:=hr.hl
 have hml:=hr.hm
 have hn1:=hr.n1
 have hn2:=hr.n2
 have hjr:=(List.getElem?_eq_some_iff.1 hx).1
 have e1:w.cell? ⟨g,k,none⟩=some (.int .i64 (l.getD k 0)):=ho.cell (by omega)
 have hfz:∀ i,w.frozen? ⟨g,i,none⟩=false:=fun i=>World.ownsRow.frozenAt ho i
 have hv0:=hr.v0
 have hv1:=hr.v1
 have HO:=(show Hid (OwnN w base (.slice (some ⟨g,0,none⟩) l.length cap) l) from ho)
 have HI:Hid (IntsR w lo hi s2 x.vw):=b5
 have hxl:=hr.hw j x hx
 have HXL:Hid (x.vw.length=24):=hxl
 generalize l.getD k 0=y at e1 hv0 hv1 hj
 obtain ⟨q,hq⟩:∃ q:Int,mx late 0=q:=⟨_,rfl⟩
 have hq0:0≤q∧q≤9223372036854775807:=by subst hq;unfold mx;split<;>omega
 rw [hq] at hj
 have hq1:(if 0 > late then 0 else late)=q:=by rw [← hq];unfold mx;rfl
 have hw1:IntKind.i64.wrap ((r.length:Int) - 1 - q)=(r.length:Int) - 1 - q:=Go.IntWalk.i64_in _ (by omega)
 have hj1:(if (r.length:Int) - 1 - q > y then (r.length:Int) - 1 - q else y)=(j:Int):=hj
 have HJ:=(show Hid (mx y ((r.length:Int) - 1 - q)=j) from hj)
 have B0:(0:Int)≤(k:Int):=by omega
 have B1:(k:Int) < (l.length:Int):=by omega
 have B2:(k:Int) < (m.length:Int):=by omega
 have B3:(0:Int)≤(j:Int):=by omega
 have B4:(j:Int) < (r.length:Int):=by omega
 have G1:gm < w.heap.size:=by omega
 have G2:gr < w.heap.size:=by omega
 have HLL:Hid (l.length=24):=hll
 have hl2:l.length≤1048577:=by omega
 clear h a4 b5 hx hj hr ho hq hll hml hxl
 go_enter Tryz.func168,Tryz.ntmps168
 go_wp2_with fail
 obtain ⟨W,hW⟩:∃ W,(w.setCell ⟨g,k,none⟩ (.int .i64 j)).alloc (.cells #[.slice (some ⟨gm,om,none⟩) m.length c] 35)=W:=⟨_,rfl⟩
 have k0:W.cell? ⟨w.heap.size,0,none⟩=some (.slice (some ⟨gm,om,none⟩) m.length c):=by subst hW;simp [go_sem]
 have kW:∀ b,b < w.heap.size→b≠g→W.heap[b]? =w.heap[b]? :=fun b h1 h2=>by subst hW;rw [Below.heap_alloc _ _ _ (by simpa using h1),Below.heap_setCell _ _ _ b h2]
 have k2:W.cell? ⟨gm,om+k,none⟩=some (.slice (some ⟨gr,or_,none⟩) r.length c1):=(World.cell?_of_block (w:=w) (kW gm (by omega) av1)).trans a3
 have k3:W.cell? ⟨gr,or_+j * 2,none⟩=some (.int .i64 x.v):=(World.cell?_of_block (w:=w) (kW gr (by omega) av3)).trans b3
 have k4:W.cell? ⟨gr,or_+j * 2+1,none⟩=some (.slice s2 x.vw.length c2):=(World.cell?_of_block (w:=w) (kW gr (by omega) av3)).trans b4
 have OW:Hid (OwnN W base (.slice (some ⟨g,0,none⟩) l.length cap) (l.set k j)):=by
  subst hW
  have p5:=(World.ownsRow.stored HO.out k (.int .i64 j)).1
  show OwnN _ _ _ _
  refine OwnN.alloc ?_ _
  unfold OwnN
  rw [List.map_set,List.length_set]
  exact p5
 have k1:W.cell? ⟨g,k,none⟩=some (.int .i64 j):=by
  have h1:OwnN W base (.slice (some ⟨g,0,none⟩) (l.set k j).length cap) (l.set k (j:Int)):=by rw [List.length_set];exact OW.out
  rw [h1.cell (i:=k) (by rw [List.length_set];omega)]
  simp [List.getD_eq_getElem?_getD,show k < l.length by omega]
 have EW:Hid (Exc g (g+1) w W):=by
  subst hW
  exact ⟨rfl,rfl,rfl,by simp,fun b h1 h2=>by rw [Below.heap_alloc _ _ _ (by simpa using h1),Below.heap_setCell _ _ _ b (by show b≠g;omega)]⟩
 have zW:w.heap.size < W.heap.size:=by subst hW;simp
 have IW:Hid (IntsR W lo hi s2 x.vw):=HI.out.off (fun g' o' e hp=>kW g' (by rcases HI.out with q | ⟨g2,o2,e2,q1,q2,-⟩;(rw [q] at hp;simp at hp);(rw [e] at e2;injection e2 with e2;injection e2 with e2;omega)) (HAV.out g' o' e hp))
 rw [hW]
 clear hW kW
 have z1:g < W.heap.size:=by omega
 have z2:gm < W.heap.size:=by omega
 have z3:gr < W.heap.size:=by omega
 go_region
 obtain ⟨X,hX⟩:∃ X,(W.alloc (.cells #[.int .i64 x.v,.slice s2 x.vw.length c2] 99)).drew=X:=⟨_,rfl⟩
 have x0:X.cell? ⟨W.heap.size,0,none⟩=some (.int .i64 x.v):=by subst hX;simp [go_sem]
 have x1:X.cell? ⟨W.heap.size,1,none⟩=some (.slice s2 x.vw.length c2):=by subst hX;simp [go_sem]
 have kX:Below W.heap.size W X:=by subst hX;exact Below.drew ((Below.refl _ _).alloc (Nat.le_refl _) _)
 have zX:W.heap.size < X.heap.size:=by subst hX;show W.heap.size < (W.alloc _).heap.size;simp
 rw [hX]
 clear hX k0 k1 k2 k3 k4 a3 b3 b4 e1 hfz
 have OX:Hid (OwnN X base (.slice (some ⟨g,0,none⟩) l.length cap) (l.set k j)):=ownKeep' OW.out (fun b hb=>by have hb2:some g=some b:=hb;injection hb2 with hb2;exact kX.block b (by omega))
 have IX:Hid (IntsR X lo hi s2 x.vw):=IW.out.keep (Keep.of_below kX (by omega))
 have EX:Hid (Exc g (g+1) w X):=by
  obtain ⟨p1,p2,p3,p4,p5⟩:=EW.out
  exact ⟨kX.os.trans p1,kX.tape.trans p2,kX.output.trans p3,by omega,fun b h1 h2=>(kX.block b (by omega)).trans (p5 b h1 h2)⟩
 clear kX
 cases hold
 ·go_wp2
  go_ret
  exact ⟨rfl,OX.out,EX.out⟩
 ·have le:=learn_any base g cap (l.set k j) s2 c2 lo hi x.vw X (by rw [List.length_set];exact OX.out) IX.out (by omega) HAV.out (by rw [List.length_set];omega) (by have:=HXL.out;omega)
  rw [List.length_set] at le
  have HT:Hid (learnL (l.set k (j:Int)) x.vw=joinL (l.set k (j:Int)) x.vw):=learn_join _ _ (by rw [List.length_set,HLL.out,HXL.out];exact Nat.le_refl _)
  go_wp2_with fail
  refine le.mono ?_
  rintro e w3 ⟨rfl,ho3,hx3,hz3⟩
  have y0:w3.cell? ⟨W.heap.size,0,none⟩=some (.int .i64 x.v):=(World.cell?_of_block (w:=X) (hx3.blk W.heap.size zX (.inr (by omega)))).trans x0
  have y1:w3.cell? ⟨W.heap.size,1,none⟩=some (.slice s2 x.vw.length c2):=(World.cell?_of_block (w:=X) (hx3.blk W.heap.size zX (.inr (by omega)))).trans x1
  have HO3:=(show Hid (OwnN w3 base (.slice (some ⟨g,0,none⟩) l.length cap) (learnL (l.set k (j:Int)) x.vw)) from ho3)
  have HX3:Hid (Exc g (g+1) w w3):=by
   obtain ⟨p1,p2,p3,p4,p5⟩:=EX.out
   exact ⟨hx3.os.trans p1,hx3.tape.trans p2,hx3.out.trans p3,by have:=hx3.size;omega,fun b h1 h2=>(hx3.blk b (by omega) h2).trans (p5 b h1 h2)⟩
  have zz:W.heap.size < w3.heap.size:=by omega
  clear ho3 hx3 hz3 le
  go_wp2
  go_ret
  refine ⟨rfl,?_,HX3.out⟩
  have:=HO3.out
  rw [HT.out] at this
  exact this
theorem l1Max_is (a b z:Int) (w:World) (h:mx a b=z):Calls Tryz.prog 130 #[.int .i64 a,.int .i64 b] w fun e w'=>e=.returned (.int .i64 z)∧w'=w:=by
 rw [← h]
 exact l1Max_any a b w
set_option maxHeartbeats 2000000 in
theorem l6Load_any (s s' : Option Addr) (c c' lo hi lo' hi' : Nat) (m : List (List WD)) (l : List Int) (k : Nat) (r : List WD) (late : Int) (hold : Bool) (j : Nat) (x : WD) (w : World) (h : MemR w lo hi s m) (h' : IntsR w lo' hi' s' l) (hB : hi ≤ w.heap.size) (hB' : hi' ≤ w.heap.size) (hr : Rt m l k r)
  (hlate:late≤9223372036854775807) (hj:mx (l.getD k 0) ((r.length:Int) - 1 - mx late 0)=j) (hx:r[j]? =some x):
  Calls Tryz.prog 116 #[.agg #[.slice s m.length c],.slice s' l.length c',.int .i64 k,.int .i64 late,.bool hold] w fun e w'=>∃ v,e=.returned (.tuple #[.int .i64 x.v,v])∧OwnN w' w.heap.size v (if hold=true then joinL (l.set k j) x.vw else l.set k j)∧Below w.heap.size w w':=by
 obtain ⟨gm,om,s1,c1,es,a1,a2,a3,a4⟩:=h.row hr.hr
 subst es
 obtain ⟨gr,or_,s2,c2,es,b1,b2,b3,b4,b5⟩:=a4.at hx
 subst es
 have hk:=hr.hk
 have hll:=hr.hl
 have hml:=hr.hm
 have hn1:=hr.n1
 have hn2:=hr.n2
 have hjr:=(List.getElem?_eq_some_iff.1 hx).1
 obtain ⟨gv,ov,es,f1,f2,f3⟩:=h'.pos (by omega)
 subst es
 have e1:=f3 k (by omega)
 have hv0:=hr.v0
 have hv1:=hr.v1
 have H:Hid (MemR w lo hi (some ⟨gm,om,none⟩) m):=h
 have H':Hid (IntsR w lo' hi' (some ⟨gv,ov,none⟩) l):=h'
 have HI:Hid (IntsR w lo hi s2 x.vw):=b5
 have hxl:=hr.hw j x hx
 have HXL:Hid (x.vw.length=24):=hxl
 have HLL:Hid (l.length=24):=hll
 have hl2:l.length≤1048577:=by omega
 generalize l.getD k 0=y at e1 hv0 hv1 hj
 obtain ⟨q,hq⟩:∃ q:Int,mx late 0=q:=⟨_,rfl⟩
 have hq0:0≤q∧q≤9223372036854775807:=by subst hq;unfold mx;split<;>omega
 rw [hq] at hj
 have HQ:Hid (mx late 0=q):=hq
 have HJ:Hid (mx ((r.length:Int) - 1 - q) y=j):=by show mx _ _=_;rw [mx_comm];exact hj
 have hw1:IntKind.i64.wrap ((r.length:Int) - 1 - q)=(r.length:Int) - 1 - q:=Go.IntWalk.i64_in _ (by omega)
 have hw0:IntKind.i64.wrap ((r.length:Int) - 1)=(r.length:Int) - 1:=Go.IntWalk.i64_in _ (by omega)
 have HJ2:Hid (mx (IntKind.i64.wrap (IntKind.i64.wrap ((r.length:Int) - 1) - q)) y=j):=by show mx _ _=_;rw [hw0,hw1];exact HJ.out
 have HJ3:Hid (mx (IntKind.i64.wrap ((r.length:Int) - 1 - q)) y=j):=by show mx _ _=_;rw [hw1];exact HJ.out
 clear hw0 hw1
 have B0:(0:Int)≤(k:Int):=by omega
 have B1:(k:Int) < (l.length:Int):=by omega
 have B2:(k:Int) < (m.length:Int):=by omega
 have B3:(0:Int)≤(j:Int):=by omega
 have B4:(j:Int) < (r.length:Int):=by omega
 have G1:gm < w.heap.size:=by omega
 have G2:gr < w.heap.size:=by omega
 have G3:gv < w.heap.size:=by omega
 clear h h' a4 b5 hx hj hr hq hll hml hxl f3
 go_enter Tryz.func116,Tryz.ntmps116
 go_wp2_with fail
 obtain ⟨W,hW,bx,kb,zb⟩:=Bo1.new w (.slice (some ⟨gm,om,none⟩) m.length c) 35
 rw [hW]
 clear hW
 have c0:=bx.c0
 have HKB:Hid (Below w.heap.size w W):=kb
 have z0:w.heap.size < W.heap.size:=by omega
 have k1:=(kb.cell (p:=⟨gm,om+k,none⟩) G1).trans a3
 have k2:=(kb.cell (p:=⟨gr,or_+j * 2,none⟩) G2).trans b3
 have k3:=(kb.cell (p:=⟨gr,or_+j * 2+1,none⟩) G2).trans b4
 have k4:=(kb.cell (p:=⟨gv,ov+k,none⟩) G3).trans e1
 have IW:Hid (IntsR W lo hi s2 x.vw):=HI.out.keep (Keep.of_below kb hB)
 have LW:Hid (IntsR W lo' hi' (some ⟨gv,ov,none⟩) l):=H'.out.keep (Keep.of_below kb hB')
 have y1:gm < W.heap.size:=by omega
 have y2:gr < W.heap.size:=by omega
 have y3:gv < W.heap.size:=by omega
 have y4:hi≤W.heap.size:=by omega
 clear bx kb zb a3 b3 b4 e1
 go_quiet (first | (go_at_call 130;exact Calls.quiet_of_same (l1Max_is _ _ _ _ HQ.out)) | (go_at_call 130;exact Calls.quiet_of_same (l1Max_is _ _ _ _ HJ.out)) | (go_at_call 130;exact Calls.quiet_of_same (l1Max_is _ _ _ _ HJ2.out)) | (go_at_call 130;exact Calls.quiet_of_same (l1Max_is _ _ _ _ HJ3.out)))
 obtain ⟨Y,hY⟩:∃ Y,W.drewN nq=Y:=⟨_,rfl⟩
 have kY:Below W.heap.size W Y:=by rw [← hY];exact below_drewN _ _
 have zY:=kY.size
 rw [hY]
 clear hY
 have HKY:Hid (Below w.heap.size w Y):=HKB.out.trans (kY.mono (by omega))
 have m1:=(kY.cell (p:=⟨gm,om+k,none⟩) y1).trans k1
 have m2:=(kY.cell (p:=⟨gr,or_+j * 2,none⟩) y2).trans k2
 have m3:=(kY.cell (p:=⟨gr,or_+j * 2+1,none⟩) y2).trans k3
 have IY:Hid (IntsR Y lo hi s2 x.vw):=IW.out.keep (Keep.of_below kY (by omega))
 have LY:Hid (IntsR (Y.alloc (.cells #[] 3)) lo' hi' (some ⟨gv,ov,none⟩) l):=LW.out.keep (Keep.of_below (kY.trans (((Below.refl _ _).alloc (Nat.le_refl _) _).mono zY)) (by omega))
 have w2:gr < Y.heap.size:=by omega
 have w4:hi≤Y.heap.size:=by omega
 clear kY k1 k2 k3 k4 c0 m1
 cases hold
 ·go_wp2_with (at_builtin;refine app_copyI rfl _ _ rfl rfl _ Y.heap.size (some ⟨Y.heap.size,0,none⟩) 0 rfl (ownN_empty (Nat.le_refl _)) (some ⟨gv,ov,none⟩) c' l rfl LY.out (by omega) (by simp) ?_;intro s5 c5 w5 ho5 hc5;obtain ⟨g5,cap5,e5,-⟩:=World.ownsRow.form ho5 (by omega);injection e5 with e51 e52 e53;subst e51;have q0:w5.cell? ⟨g5,k,none⟩=some (.int .i64 (l.getD k 0)):=ho5.cell (by omega);have q1:w5.frozen? ⟨g5,k,none⟩=false:=World.ownsRow.frozenAt ho5 k;have q9:=(World.ownsRow.lt ho5 g5 rfl);have hb5:Below Y.heap.size Y w5:=((Below.refl _ _).alloc (Nat.le_refl _) _).trans hc5.low;have q2:=(hb5.cell (p:=⟨gr,or_+j * 2,none⟩) w2).trans m2;have q3:=(hb5.cell (p:=⟨gr,or_+j * 2+1,none⟩) w2).trans m3;have q4:¬ g5=gr:=(by omega);have q5:¬ gr=g5:=(by omega);have HO5:=(show Hid (OwnN w5 Y.heap.size (.slice (some ⟨g5,0,none⟩) l.length c5) l) from ho5);have HB5:Hid (Below Y.heap.size Y w5):=hb5;clear ho5 hc5 hb5 e53)
  have st:OwnN (w5.setCell ⟨g5,k,none⟩ (.int .i64 j)) Y.heap.size (.slice (some ⟨g5,0,none⟩) l.length c5) (l.set k j):=by
   have p5:=(World.ownsRow.stored HO5.out k (.int .i64 j)).1
   unfold OwnN
   rw [List.map_set,List.length_set]
   exact p5
  have kb:Below Y.heap.size Y (w5.setCell ⟨g5,k,none⟩ (.int .i64 j)):=HB5.out.setCell (p:=⟨g5,k,none⟩) q9.1 _
  go_ret2
  exact ⟨_,rfl,ownLow' st (by have:=HKY.out.size;omega),HKY.out.trans (kb.mono HKY.out.size)⟩
 ·go_wp2_with (first | (at_builtin;refine app_copyI rfl _ _ rfl rfl _ Y.heap.size (some ⟨Y.heap.size,0,none⟩) 0 rfl (ownN_empty (Nat.le_refl _)) (some ⟨gv,ov,none⟩) c' l rfl LY.out (by omega) (by simp) ?_;intro s5 c5 w5 ho5 hc5;obtain ⟨g5,cap5,e5,-⟩:=World.ownsRow.form ho5 (by omega);injection e5 with e51 e52 e53;subst e51;have q0:w5.cell? ⟨g5,k,none⟩=some (.int .i64 (l.getD k 0)):=ho5.cell (by omega);have q1:w5.frozen? ⟨g5,k,none⟩=false:=World.ownsRow.frozenAt ho5 k;have q9:=(World.ownsRow.lt ho5 g5 rfl);have hb5:Below Y.heap.size Y w5:=((Below.refl _ _).alloc (Nat.le_refl _) _).trans hc5.low;have q2:=(hb5.cell (p:=⟨gr,or_+j * 2,none⟩) w2).trans m2;have q3:=(hb5.cell (p:=⟨gr,or_+j * 2+1,none⟩) w2).trans m3;have q4:¬ g5=gr:=(by omega);have q5:¬ gr=g5:=(by omega);have HO5:=(show Hid (OwnN w5 Y.heap.size (.slice (some ⟨g5,0,none⟩) l.length c5) l) from ho5);have HB5:Hid (Below Y.heap.size Y w5):=hb5;clear ho5 hc5 hb5 e53) | fail)
  have st:OwnN (w5.setCell ⟨g5,k,none⟩ (.int .i64 j)) Y.heap.size (.slice (some ⟨g5,0,none⟩) l.length c5) (l.set k j):=by
   have p5:=(World.ownsRow.stored HO5.out k (.int .i64 j)).1
   unfold OwnN
   rw [List.map_set,List.length_set]
   exact p5
  have kb:Below Y.heap.size Y (w5.setCell ⟨g5,k,none⟩ (.int .i64 j)):=HB5.out.setCell (p:=⟨g5,k,none⟩) q9.1 _
  obtain ⟨X,hX⟩:∃ X,w5.setCell ⟨g5,k,none⟩ (.int .i64 j)=X:=⟨_,rfl⟩
  rw [hX] at st kb
  rw [hX]
  have n2:=(kb.cell (p:=⟨gr,or_+j * 2,none⟩) w2).trans m2
  have zX:=kb.size
  have OX:Hid (IntsR X Y.heap.size X.heap.size (some ⟨g5,0,none⟩) (l.set k (j:Int))):=ownN_intsR (c:=c5) (by rw [List.length_set];exact st)
  have IX:Hid (IntsR X lo hi s2 x.vw):=IY.out.keep (Keep.of_below kb (by omega))
  have HKX:Hid (Below Y.heap.size Y X):=kb
  have zg:gr < X.heap.size:=by omega
  clear hX st kb q0 q1 q2 q3
  have jn:=specJoin_any (some ⟨g5,0,none⟩) s2 c5 c2 _ _ lo hi (l.set k (j:Int)) x.vw X OX.out IX.out (by rw [List.length_set];omega) (by have:=HXL.out;omega) (Nat.le_refl _) (by omega)
  rw [List.length_set] at jn
  refine jn.mono ?_
  rintro e w6 ⟨v6,rfl,ho6,hb6⟩
  have n3:=(hb6.cell (p:=⟨gr,or_+j * 2,none⟩) zg).trans n2
  have HO6:=(show Hid _ from ho6)
  have HB6:Hid (Below X.heap.size X w6):=hb6
  have z6:=hb6.size
  have zg6:gr < w6.heap.size:=by omega
  clear ho6 hb6 jn n2
  go_wp2
  go_ret2
  exact ⟨_,rfl,ownLow' HO6.out (by have:=HKY.out.size;omega),HKY.out.trans ((HKX.out.trans (HB6.out.mono (by omega))).mono HKY.out.size)⟩
end
section
set_option linter.unusedSimpArgs false
set_option linter.unusedVariables false
set_option maxRecDepth 100000
open Go.RowKit
def vcat:List WD→List Value
 | []=>[]
 | y::t=>y.vw.map (Value.int .i64)++vcat t
theorem vcat_len:∀ l:List WD,(vcat l).length=szV l
 | []=>rfl
 | y::t=>by simp [vcat,szV,vcat_len t]
theorem vcat_app (y:WD):∀ l:List WD,vcat (l++[y])=vcat l++y.vw.map (Value.int .i64)
 | []=>by simp [vcat]
 | x::t=>by simp [vcat,vcat_app y t]
theorem vcat_at:∀ (l:List WD) (i:Nat) (y:WD) (j:Nat),l[i]? =some y→j < y.vw.length→(vcat l)[szV (l.take i)+j]? =some (.int .i64 (y.vw.getD j 0))
 | [],i,y,j,h,_=>by simp at h
 | x::t,0,y,j,h,hj=>by
  simp at h
  subst h
  simp [vcat,szV,List.getElem?_append_left,hj,List.getD_eq_getElem?_getD]
 | x::t,i+1,y,j,h,hj=>by
  have ih:=vcat_at t i y j (by simpa using h) hj
  simp only [vcat,List.take_succ_cons,szV]
  rw [List.getElem?_append_right (by simp;omega)]
  have e:x.vw.length+szV (t.take i)+j - (x.vw.map (Value.int .i64)).length=szV (t.take i)+j:=by simp;omega
  rw [e]
  exact ih
theorem szV_le_take (l:List WD) (k:Nat):szV (l.take k)≤szV l:=by
 induction l generalizing k with
 | nil=>simp [szV]
 | cons x t ih=>
  cases k with
  | zero=>simp [szV]
  | succ k=>have:=ih k;simp [szV];omega
theorem vsA_range (R:Nat):∀ (vs:List VS) (l:List WD) (o:Nat),vs.length=l.length→(∀ (i:Nat) (x:VS) (y:WD),vs[i]? =some x→l[i]? =some y→x.n=y.vw.length∧(0 < x.n→x.s=some ⟨R,o+szV (l.take i),none⟩))→vsA vs=(List.range' o (szV l)).map (fun j=>(⟨R,j,none⟩:Addr))
 | [],[],o,_,_=>by simp [vsA,szV]
 | x::r,y::t,o,h,hv=>by
  have h0:=hv 0 x y rfl rfl
  have ih:=vsA_range R r t (o+y.vw.length) (by simpa using h) (fun i a b ha hb=>by
   have:=hv (i+1) a b (by simpa using ha) (by simpa using hb)
   simp only [List.take_succ_cons,szV] at this
   refine ⟨this.1,fun hp=>?_⟩
   rw [this.2 hp]
   congr 2
   omega)
  have e1:vAs x=(List.range' o y.vw.length).map (fun j=>(⟨R,j,none⟩:Addr)):=by
   rcases Nat.eq_zero_or_pos x.n with hz | hp
   ·have:y.vw.length=0:=by omega
    simp [vAs,hz,this]
   ·have hs:=h0.2 hp
    simp only [List.take_zero,szV,Nat.add_zero] at hs
    rw [← h0.1]
    apply List.ext_getElem? fun i=>?_
    by_cases hi:i < x.n
    ·rw [vAs_at hi,List.getElem?_map,List.getElem?_range' hi,hs]
     simp [adr]
    ·rw [List.getElem?_eq_none (by rw [vAs_len];omega),List.getElem?_eq_none (by simp;omega)]
  rw [vsA,e1,ih,szV,← List.map_append]
  congr 1
  simp
 | [],_::_,_,h,_=>by simp at h
 | _::_,[],_,h,_=>by simp at h
theorem vsA_ok {w : World} {B R : Nat} {vs : List VS} {l : List WD} (hn : vs.length = l.length) (hv : ∀ (i : Nat) (x : VS) (y : WD), vs[i]? = some x → l[i]? = some y → x.n = y.vw.length ∧ (0 < x.n → x.s = some ⟨R, szV (l.take i), none⟩)) (hB : B ≤ R) (hR : w.heap[R]? = some (.cells (vcat l).toArray 3 (0, 0))) :
  (∀ (i:Nat) (x:VS) (y:WD),vs[i]? =some x→l[i]? =some y→VO w B w.heap.size x y.vw)∧(∀ a∈vsA vs,TyI w a.block)∧(vsA vs).Nodup:=by
 have hlt:R < w.heap.size:=(Array.getElem?_eq_some_iff.1 hR).1
 have e:=vsA_range R vs l 0 hn (fun i x y hx hy=>by have:=hv i x y hx hy;rw [Nat.zero_add];exact this)
 refine ⟨fun i x y hx hy=>?_,fun a ha=>?_,?_⟩
 ·obtain ⟨h1,h2⟩:=hv i x y hx hy
  refine ⟨h1,?_⟩
  rcases Nat.eq_zero_or_pos x.n with hz | hp
  ·exact .inl (List.length_eq_zero_iff.1 (by omega))
  ·refine .inr ⟨R,szV (l.take i),h2 hp,hB,hlt,fun j hj=>⟨?_,?_⟩⟩
   ·have h3:=vcat_at l i y j hy hj
    simp [World.cell?,hR,h3]
   ·simp [World.frozen?,hR]
 ·rw [e] at ha
  obtain ⟨j,-,rfl⟩:=List.mem_map.1 ha
  exact ⟨_,_,hR⟩
 ·rw [e]
  exact List.Pairwise.map _ (fun a b hab e=>by injection e with _ e;exact hab e) List.nodup_range'
theorem set2App {α:Type} (z0 z1 u v:α) (D:List α):∀ (a:List α) (n:Nat),a.length=n→((a++z0::z1::D).set n u).set (n+1) v=a++u::v::D
 | [],n,h=>by subst h;rfl
 | x::r,n,h=>by
  subst h
  have ih:=set2App z0 z1 u v D r r.length rfl
  show x::(((r++z0::z1::D).set r.length u).set (r.length+1) v)=x::(r++u::v::D)
  rw [ih]
theorem app_copyV {ops : Array Oper} {rest : List Oper} {o : Oper} {a : Act} {Q : Exit → Act → World → Prop} (hgd : o.guard = none) (d s : Operand) (sT : TypeId) (ho : o.op = .call { callee := .builtin .copy, args := #[d, s], argTypes := #[177, sT] })
  (w:World) (R off:Nat) (cur:List Value) (hg:w.heap[R]? =some (.cells cur.toArray 3 (0,0))) (dp sp:Option Addr) (n dc sc:Nat) (hd:a.eval d=.slice dp n dc) (hs:a.eval s=.slice sp n sc) (l:List Int) (hl:l.length=n)
  (hp:0 < n→dp=some ⟨R,off,none⟩) {lo hi:Nat} (hr:IntsR w lo hi sp l) (hfit:off+n≤cur.length)
  (h:∀ w',w'.heap[R]? =some (.cells (splice cur off (l.map (Value.int .i64))).toArray 3 (0,0))→Exc R (R+1) w w'→w'.heap.size=w.heap.size→wpList Tryz.prog ops Q rest (a.put o.dst (.int .i64 n)) w'):wpList Tryz.prog ops Q (o::rest) a w:=by
 by_cases h0:n=0
 ·subst h0
  obtain rfl:l=[]:=List.length_eq_zero_iff.1 hl
  refine wpList_copy_nothing hgd d s 177 sT ho 3 Tryz.underlying177 rfl dp sp 0 dc 0 sc hd hs rfl ?_
  exact h w (by simpa [splice] using hg) ⟨rfl,rfl,rfl,Nat.le_refl _,fun _ _ _=>rfl⟩ rfl
 ·obtain rfl:=hp (by omega)
  obtain ⟨g,off',rfl,h1,h2,hc⟩:=hr.pos (by omega)
  refine wpList_copy_own hgd d s 177 sT ho 3 Tryz.underlying177 rfl R off n dc ⟨g,off',none⟩ n sc hd hs cur.toArray 3 hg (l.map (Value.int .i64)) (by simp [hl]) (cells_row hc) (by simpa [hl] using hfit) (fun v hv=>by obtain ⟨z,-,rfl⟩:=List.mem_map.1 hv;rfl) ?_
  rw [List.length_map,hl]
  refine h _ ?_ ⟨rfl,rfl,rfl,by simp [World.setRow],fun k _ hk=>setRow_other w R k _ (by omega)⟩ (by simp [World.setRow])
  have:=setRow_heap w R _ (cur.take off++(l.map (Value.int .i64)++cur.drop (off+n))).toArray 3 _ hg
  simpa [splice,hl] using this
theorem mkView' (n:Nat) (hn:n≤1048577) (w:World):(Instr.makeSlice 177 (.int .i64 (n:Int)) (.int .i64 (n:Int))).run Tryz.prog w=.ok (.slice (some ⟨w.heap.size,0,none⟩) n n) (w.alloc (.cells (madeCells #[.int .i64 0] n) 3)):=by
 have:=mkView n hn w
 rw [Nat.mul_one] at this
 exact this
def zeros (n:Nat):List Value:=(madeCells #[.int .i64 0,.slice none 0 0] (n * 2)).toList
set_option maxHeartbeats 4000000 in
theorem sameWrites_any (s : Option Addr) (c lo hi : Nat) (l : List WD) (w : World) (h : WsR w lo hi s l) (hB : hi ≤ w.heap.size) (hl : l.length + szV l ≤ 1048576) :
  Calls Tryz.prog 119 #[.slice s l.length c] w fun e w'=>∃ r:RS,e=.returned r.val∧ORow w' w.heap.size r l∧Below w.heap.size w w':=by
 have H:Hid (WsR w lo hi s l):=h
 have hl1:l.length≤1048576:=by omega
 have hl2:szV l≤1048576:=by omega
 clear h
 go_enter Tryz.func119,Tryz.ntmps119
 go_wp2
 go_loopw [3,13] (fun a i wr=>∃ k:Nat,k≤l.length∧i=.int .i64 k∧a=.int .i64 ((szV (l.take k):Nat):Int)∧Below w.heap.size w wr) (fun _ i _=>l.length - (intOf i).toNat)
 case atStart=>exact ⟨0,Nat.zero_le _,rfl,by simp [szV],Below.refl _ _⟩
 case round=>
  obtain ⟨k,hk,rfl,rfl,hb⟩:=hrel
  have HB:Hid (Below w.heap.size w wr):=hb
  have hz:=hb.size
  clear hb
  by_cases hlt:k < l.length
  ·obtain ⟨x,hx⟩:∃ x,l[k]? =some x:=⟨_,List.getElem?_eq_getElem hlt⟩
   obtain ⟨g,o,s1,c1,e1,q1,q2,q3,q4,-⟩:=(H.out.keep (Keep.of_below HB.out hB)).at hx
   subst e1
   have HT:Hid (szV (l.take (k+1))=szV (l.take k)+x.vw.length):=szV_take l k x hx
   have h1:=szV_le_take l k
   have h2:=szV_at l k x hx
   have b0:(0:Int)≤(k:Int):=by omega
   have b1:(k:Int) < (l.length:Int):=by omega
   have zg:g < wr.heap.size:=by omega
   generalize szV (l.take k)=o1 at HT h1
   generalize x.vw.length=n1 at HT h2 q4
   clear hx
   go_wp2
   go_roundw
   case rel=>exact ⟨k+1,by omega,by go_num,by rw [HT.out];go_num,HB.out.alloc (by omega) _⟩
   case measure=>simp [intOf];omega
  ·have:k=l.length:=by omega
   subst this
   rw [List.take_length]
   have hm1:=mkView' (szV l) (by omega)
   have hm2:=mkW l.length hl1
   go_wp2
   clear hm1 hm2
   have hz:=HB.out.size
   rename World=>w1
   have HRw:Hid (WsR w1 lo hi s l):=H.out.keep (Keep.of_below HB.out hB)
   go_loopw [6,30] (fun a i wr=>∃ (k:Nat) (s':Option Addr) (vs:List VS) (cur:List Value),k≤l.length∧i=.int .i64 k∧a=.slice s' (szV l - szV (l.take k)) (szV l - szV (l.take k))∧(szV (l.take k) < szV l→s'=some ⟨w1.heap.size,szV (l.take k),none⟩)∧vs.length=k∧Below w1.heap.size w1 wr∧w1.heap.size+1 < wr.heap.size∧cur.length=szV l∧cur.take (szV (l.take k))=vcat (l.take k)∧wr.heap[w1.heap.size]? =some (.cells cur.toArray 3 (0,0))∧wr.ownsRow w.heap.size 99 2 (.slice (some ⟨w1.heap.size+1,0,none⟩) l.length l.length) l.length (flatV vs (l.take k)++(zeros l.length).drop (k * 2))∧(∀ (i:Nat) (x:VS) (y:WD),vs[i]? =some x→l[i]? =some y→x.n=y.vw.length∧(0 < x.n→x.s=some ⟨w1.heap.size,szV (l.take i),none⟩))) (fun _ i _=>l.length - (intOf i).toNat)
   case atStart=>
    refine ⟨0,some ⟨w1.heap.size,0,none⟩,[],List.replicate (szV l) (.int .i64 0),Nat.zero_le _,rfl,by simp [szV],fun _=>by simp [szV],rfl,((Below.refl _ _).alloc (Nat.le_refl _) _).alloc (by simp) _,by simp,by simp,by simp [szV,vcat],?_,?_,fun i x y h=>by simp at h⟩
    ·rw [Below.heap_alloc _ _ _ (by simp),heap_alloc_new,← toList_madeCells_one]
    ·have h0:=World.ownsRow_lit (base:=w.heap.size) (e:=99) (size:=2) (w1.alloc (.cells (madeCells #[.int .i64 0] (szV l)) 3)) (madeCells #[.int .i64 0,.slice none 0 0] (l.length * 2)) l.length (by simp;omega) (by unfold maxLen;omega) (size_madeCells _ _)
     simpa [flatV,zeros] using h0
   case round=>
    obtain ⟨k,s',vs,cur,hk,rfl,rfl,hs',hvs,hb1,hz1,hcl,hct,hg,how,hv⟩:=hrel
    have HB1:Hid (Below w1.heap.size w1 wr):=hb1
    have HVS:Hid (vs.length=k):=hvs
    have HCL:Hid (cur.length=szV l):=hcl
    have HCT:Hid (cur.take (szV (l.take k))=vcat (l.take k)):=hct
    have HG:Hid (wr.heap[w1.heap.size]? =some (.cells cur.toArray 3 (0,0))):=hg
    have HOW:=(show Hid (wr.ownsRow w.heap.size 99 2 (.slice (some ⟨w1.heap.size+1,0,none⟩) l.length l.length) l.length (flatV vs (l.take k)++(zeros l.length).drop (k * 2))) from how)
    have HV:Hid (∀ (i:Nat) (x:VS) (y:WD),vs[i]? =some x→l[i]? =some y→x.n=y.vw.length∧(0 < x.n→x.s=some ⟨w1.heap.size,szV (l.take i),none⟩)):=hv
    have HS':Hid (szV (l.take k) < szV l→s'=some ⟨w1.heap.size,szV (l.take k),none⟩):=hs'
    clear hb1 hvs hcl hct hg how hv hs'
    by_cases hlt:k < l.length
    ·obtain ⟨x,hx⟩:∃ x,l[k]? =some x:=⟨_,List.getElem?_eq_getElem hlt⟩
     obtain ⟨g,o,s1,c1,e1,q1,q2,q3,q4,q5⟩:=(HRw.out.keep (Keep.of_below HB1.out (by omega))).at hx
     subst e1
     have HI:Hid (IntsR wr lo hi s1 x.vw):=q5
     have ht:=szV_take l k x hx
     have HT:Hid (szV (l.take (k+1))=szV (l.take k)+x.vw.length):=ht
     have h1:=szV_le_take l (k+1)
     rw [ht] at h1
     have HX:Hid (l[k]? =some x):=hx
     have b0:(0:Int)≤(k:Int):=by omega
     have b1:(k:Int) < (l.length:Int):=by omega
     have zg:g < wr.heap.size:=by omega
     have cc:∀ j,j < 2→∃ u,wr.cell? ⟨w1.heap.size+1,k * 2+j,none⟩=some u:=fun j hj=>by
      rw [World.ownsRow.cellAt HOW.out (k * 2+j) (by omega)]
      exact ⟨_,List.getElem?_eq_getElem (by have:=HOW.out.1;omega)⟩
     have ff:∀ j,wr.frozen? ⟨w1.heap.size+1,j,none⟩=false:=fun j=>World.ownsRow.frozenAt HOW.out j
     obtain ⟨u0,a0⟩:=cc 0 (by omega)
     obtain ⟨u1,a1⟩:=cc 1 (by omega)
     rw [Nat.add_zero] at a0
     have cu:=cut_any s' (szV l - szV (l.take k)) (szV l - szV (l.take k)) x.vw.length (wr.alloc (.cells #[.int .i64 x.v,.slice s1 x.vw.length c1] 99)) (by omega)
     have HG1:Hid ((wr.alloc (.cells #[.int .i64 x.v,.slice s1 x.vw.length c1] 99)).heap[w1.heap.size]? =some (.cells cur.toArray 3 (0,0))):=by show _=_;rw [Below.heap_alloc _ _ _ (by omega)];exact HG.out
     have HI1:Hid (IntsR (wr.alloc (.cells #[.int .i64 x.v,.slice s1 x.vw.length c1] 99)) lo hi s1 x.vw):=HI.out.keep (Keep.of_below ((Below.refl wr.heap.size wr).alloc (Nat.le_refl _) _) (by omega))
     have hp:0 < x.vw.length→s'=some ⟨w1.heap.size,szV (l.take k),none⟩:=fun hp=>HS'.out (by omega)
     have HP:Hid (0 < x.vw.length→s'=some ⟨w1.heap.size,szV (l.take k),none⟩):=hp
     have zz1:w1.heap.size < wr.heap.size:=by omega
     have nz:¬ wr.heap.size=w1.heap.size:=by omega
     clear hx q5 ht cc hp
     go_wp2_with (first | (go_at_call 136;refine cu.mono ?_;rintro e w9 ⟨rfl,hw9⟩;subst w9) | (refine app_copyV rfl _ _ 51 rfl _ w1.heap.size (szV (l.take k)) cur HG1.out s' s1 x.vw.length x.vw.length c1 rfl rfl x.vw rfl HP.out HI1.out (by have:=HCL.out;omega) ?_;intro w2 hg2 hx2 hz2;have t0:w2.cell? ⟨wr.heap.size,0,none⟩=some (.int .i64 x.v):=(World.cell?_of_block (w:=wr.alloc (.cells #[.int .i64 x.v,.slice s1 x.vw.length c1] 99)) (hx2.blk wr.heap.size (by simp) (by omega))).trans (by simp [go_sem]);have t1:w2.cell? ⟨wr.heap.size,1,none⟩=some (.slice s1 x.vw.length c1):=(World.cell?_of_block (w:=wr.alloc (.cells #[.int .i64 x.v,.slice s1 x.vw.length c1] 99)) (hx2.blk wr.heap.size (by simp) (by omega))).trans (by simp [go_sem]);have kk:∀ b,b < wr.heap.size→b≠w1.heap.size→w2.heap[b]? =wr.heap[b]? :=(fun b h1 h2=>(hx2.blk b (by simp;omega) (by omega)).trans (Below.heap_alloc _ _ _ h1));have t2:=(World.cell?_of_block (w:=wr) (a:=⟨w1.heap.size+1,k * 2,none⟩) (kk (w1.heap.size+1) hz1 (by omega))).trans a0;have t3:=(World.cell?_of_block (w:=wr) (a:=⟨w1.heap.size+1,k * 2+1,none⟩) (kk (w1.heap.size+1) hz1 (by omega))).trans a1;have t4:∀ j,w2.frozen? ⟨w1.heap.size+1,j,none⟩=false:=(fun j=>(World.frozen?_of_block (w:=wr) (a:=⟨w1.heap.size+1,j,none⟩) (kk (w1.heap.size+1) hz1 (by omega))).trans (ff j));have HG2:=(show Hid _ from hg2);have HX2:=(show Hid _ from hx2);have HK2:=(show Hid _ from kk);have HZ2:Hid (w2.heap.size=wr.heap.size+1):=(by show _=_;rw [hz2];simp);clear hg2 hx2 hz2 kk))
     have TL:(l.take k).length=k:=by simp;omega
     have ET:l.take (k+1)=l.take k++[x]:=by rw [List.take_add_one,HX.out];rfl
     have LS:(splice cur (szV (l.take k)) (x.vw.map (Value.int .i64))).length=szV l:=by rw [length_splice _ _ _ (by rw [List.length_map,HCL.out];omega)];exact HCL.out
     refine ⟨⟨k+1,_,vs++[⟨s',x.vw.length,x.vw.length⟩],splice cur (szV (l.take k)) (x.vw.map (Value.int .i64)),by omega,by go_num,by rw [HT.out,Nat.sub_sub],fun hlt2=>?_,by simp [HVS.out],?_,?_,LS,?_,?_,?_,fun i x1 y1 e1 e2=>?_⟩,by simp [intOf];omega⟩
     ·rw [HT.out] at hlt2 ⊢
      rw [if_neg (by omega),HS'.out (by omega)]
      simp only [Option.map_some]
      congr 1
      by_cases h9:x.vw.length=0
      ·rw [h9];rfl
      ·simp [Addr.add,h9]
     ·exact (((HB1.out.alloc (by omega) _).trans (HX2.out.below (Nat.le_refl _) (by simp;omega))).setCell (p:=⟨w1.heap.size+1,k * 2,none⟩) (by show w1.heap.size≤w1.heap.size+1;omega) _).setCell (p:=⟨w1.heap.size+1,k * 2+1,none⟩) (by show w1.heap.size≤w1.heap.size+1;omega) _
     ·simp [HZ2.out];omega
     ·rw [HT.out,ET,vcat_app,← HCT.out]
      unfold splice
      rw [← List.append_assoc]
      exact List.take_left' (by simp [HCL.out];omega)
     ·rw [Below.heap_setCell _ _ _ _ (by show w1.heap.size≠w1.heap.size+1;omega),Below.heap_setCell _ _ _ _ (by show w1.heap.size≠w1.heap.size+1;omega)]
      exact HG2.out
     ·have o2:w2.ownsRow w.heap.size 99 2 (.slice (some ⟨w1.heap.size+1,0,none⟩) l.length l.length) l.length (flatV vs (l.take k)++(zeros l.length).drop (k * 2)):=ownKeep' HOW.out (fun b hb=>by have hb2:some (w1.heap.size+1)=some b:=hb;injection hb2 with hb2;subst hb2;exact HK2.out _ hz1 (by omega))
      have p1:=(World.ownsRow.stored o2 (k * 2) (.int .i64 x.v)).1
      have p2:=(World.ownsRow.stored p1 (k * 2+1) (.slice s' x.vw.length x.vw.length)).1
      have fl:(flatV vs (l.take k)).length=k * 2:=by rw [flatV_len _ _ (by rw [HVS.out,TL]),HVS.out]
      have zl:(zeros l.length).length=l.length * 2:=by unfold zeros;rw [Array.length_toList,size_madeCells]
      have e1:(zeros l.length).drop (k * 2)=(zeros l.length)[k * 2]'(by omega)::(zeros l.length)[k * 2+1]'(by omega)::(zeros l.length).drop ((k+1) * 2):=by
       rw [List.drop_eq_getElem_cons (by omega),List.drop_eq_getElem_cons (by omega)]
       congr 2
       rw [show k * 2+1+1=(k+1) * 2 by omega]
      have e2:((flatV vs (l.take k)++(zeros l.length).drop (k * 2)).set (k * 2) (.int .i64 x.v)).set (k * 2+1) (.slice s' x.vw.length x.vw.length)=flatV (vs++[⟨s',x.vw.length,x.vw.length⟩]) (l.take (k+1))++(zeros l.length).drop ((k+1) * 2):=by
       rw [e1,ET,flatV_app _ _ _ _ (by rw [HVS.out,TL])]
       rw [set2App _ _ _ _ _ _ _ fl]
       simp
      rw [← e2]
      exact p2
     ·rcases getElem?_push e1 with e1 | ⟨i1,rfl⟩
      ·exact HV.out i x1 y1 e1 e2
      ·have e3:i=k:=by rw [i1,HVS.out]
       subst e3
       rw [HX.out] at e2
       injection e2 with e2
       subst e2
       exact ⟨rfl,HP.out⟩
    ·have e9:k=l.length:=by omega
     subst e9
     go_wp2
     go_ret
     have hct:=HCT.out
     have how:=HOW.out
     have hv:=HV.out
     rw [List.take_length] at hct how
     have ec:cur=vcat l:=by rw [← hct,List.take_of_length_le (by rw [HCL.out];exact Nat.le_refl _)]
     have hg:=HG.out
     rw [ec] at hg
     obtain ⟨k1,k2,k3⟩:=vsA_ok (w:=wr) (B:=w.heap.size) (R:=w1.heap.size) HVS.out hv (by omega) hg
     have ez:(zeros l.length).drop (l.length * 2)=[]:=List.drop_eq_nil_of_le (by unfold zeros;rw [Array.length_toList,size_madeCells];exact Nat.le_refl _)
     rw [ez,List.append_nil] at how
     refine ⟨⟨some ⟨w1.heap.size+1,0,none⟩,l.length,vs⟩,?_,⟨HVS.out,?_,k1,k2,k3⟩,HB.out.trans (HB1.out.mono (by omega))⟩
     ·show _=Ending.returned (.slice (some ⟨w1.heap.size+1,0,none⟩) vs.length l.length)
      rw [HVS.out]
      rfl
     ·show wr.ownsRow w.heap.size 99 2 (.slice (some ⟨w1.heap.size+1,0,none⟩) vs.length l.length) vs.length (flatV vs l)
      rw [HVS.out]
      exact how
end
section
set_option linter.unusedSimpArgs false
set_option linter.unusedVariables false
set_option maxRecDepth 100000
open Go.RowKit
theorem OW.low {w:World} {B B':Nat} {v:Value} {S:List RS} {m:List (List WD)} (h:OW w B v S m) (hb:B'≤B):OW w B' v S m:=
 ⟨h.n,ownLow' h.row hb,fun i r l hr hl=>(h.r i r l hr hl).low hb,h.d⟩
set_option maxHeartbeats 2000000 in
theorem sameMemory_any (s : Option Addr) (c lo hi : Nat) (m : List (List WD)) (w : World) (h : MemR w lo hi s m) (hB : hi ≤ w.heap.size) (hl : MFits m) :
  Calls Tryz.prog 95 #[.agg #[.slice s m.length c]] w fun e w'=>∃ v S,e=.returned (.agg #[v])∧OW w' w.heap.size v S m∧Below w.heap.size w w':=by
 have hl1:=hl.n
 have hmk:=mkWW m.length hl1
 have HC:Hid (MemR w lo hi s m):=h
 clear h
 go_enter Tryz.func95,Tryz.ntmps95
 go_wp2
 clear hmk
 have HL:Hid (MFits m):=hl
 go_loopw [14] (fun i wr=>∃ (k:Nat) (S:List RS),k≤m.length∧i=.int .i64 k∧S.length=k∧Below w.heap.size w wr∧w.heap.size+1+1+1 < wr.heap.size∧wr.cell? ⟨w.heap.size+1+1+1,0,none⟩=some (.slice (some ⟨w.heap.size+1+1,0,none⟩) m.length m.length)∧(wr.cell? ⟨w.heap.size+1,0,none⟩).isSome=true∧(∀ j,wr.frozen? ⟨w.heap.size+1,j,none⟩=false)∧wr.ownsRow (w.heap.size+2) 97 1 (.slice (some ⟨w.heap.size+1+1,0,none⟩) m.length m.length) m.length (S.map RS.val++List.replicate (m.length - k) (.slice none 0 0))∧(∀ (i:Nat) (r:RS) (l:List WD),S[i]? =some r→m[i]? =some l→ORow wr (w.heap.size+4) r l)∧(mAs S).Nodup) (fun i _=>m.length - (intOf i).toNat)
 case atStart=>
  refine ⟨0,[],Nat.zero_le _,rfl,rfl,((((Below.refl _ _).alloc (Nat.le_refl _) _).alloc (by simp) _).alloc (by simp;omega) _).alloc (by simp;omega) _,by simp,by simp [go_sem],by simp [go_sem],fun j=>by simp [go_sem],?_,fun i r l h=>by simp at h,by simp [mAs]⟩
  have h0:=World.ownsRow_lit (base:=w.heap.size+2) (e:=97) (size:=1) ((w.alloc (.cells #[.slice s m.length c] 35)).alloc (.cells #[.slice none 0 0] 35)) (madeCells #[.slice none 0 0] m.length) m.length (by simp) (by unfold maxLen;omega) (by rw [size_madeCells];omega)
  rw [toList_madeCells_one] at h0
  have h1:=World.ownsRow.alloc h0 (.cells #[.slice (some ⟨w.heap.size+1+1,0,none⟩) m.length m.length] 35)
  simpa using h1
 case round=>
  obtain ⟨k,S,hk,rfl,hS,hb,hz,c3,c1,f1,hrow,hr,hd⟩:=hrel
  have HB:Hid (Below w.heap.size w wr):=hb
  have HS:Hid (S.length=k):=hS
  have HROW:=(show Hid (wr.ownsRow (w.heap.size+2) 97 1 (.slice (some ⟨w.heap.size+1+1,0,none⟩) m.length m.length) m.length (S.map RS.val++List.replicate (m.length - k) (.slice none 0 0))) from hrow)
  have HR:Hid (∀ (i:Nat) (r:RS) (l:List WD),S[i]? =some r→m[i]? =some l→ORow wr (w.heap.size+4) r l):=hr
  have HD:Hid ((mAs S).Nodup):=hd
  have HF1:Hid (∀ j,wr.frozen? ⟨w.heap.size+1,j,none⟩=false):=f1
  have HC1:Hid ((wr.cell? ⟨w.heap.size+1,0,none⟩).isSome=true):=c1
  have z1:w.heap.size+1 < wr.heap.size:=by omega
  have z2:w.heap.size+1+1 < wr.heap.size:=by omega
  clear hb hS hrow hr hd f1 c1
  by_cases hlt:k < m.length
  ·obtain ⟨x,hx⟩:∃ x,m[k]? =some x:=⟨_,List.getElem?_eq_getElem hlt⟩
   obtain ⟨g,o,s1,cx,e1,q1,q2,q3,q5⟩:=(HC.out.keep (Keep.of_below HB.out hB)).row hx
   subst e1
   have HI:Hid (WsR wr lo hi s1 x):=q5
   have HXL:Hid (x.length+szV x≤1048576):=HL.out.r hx
   have HX:Hid (m[k]? =some x):=hx
   obtain ⟨u0,a0⟩:∃ u,wr.cell? ⟨w.heap.size+1+1,k,none⟩=some u:=by
    rw [World.ownsRow.cellAt HROW.out k (by omega)]
    exact ⟨_,List.getElem?_eq_getElem (by have:=HROW.out.1;omega)⟩
   have ff:∀ j,wr.frozen? ⟨w.heap.size+1+1,j,none⟩=false:=fun j=>World.ownsRow.frozenAt HROW.out j
   have b0:(0:Int)≤(k:Int):=by omega
   have b1:(k:Int) < (m.length:Int):=by omega
   have zg:g < wr.heap.size:=by omega
   clear hx q5
   go_wp2_with fail
   go_region_held3 (fun w'=>w'.cell? ⟨w.heap.size+1+1+1,0,none⟩=some (.slice (some ⟨w.heap.size+1+1,0,none⟩) m.length m.length)) (go_keep) ((go_at_call 119;refine (sameWrites_any s1 cx lo hi x wr.drew HI.out (by show hi≤wr.heap.size;omega) HXL.out).mono ?_;rintro e w2 ⟨r2,he2,ho2,hb2⟩;have he3:e=.returned (.slice r2.s r2.vs.length r2.c):=he2;subst he3;clear he2;have hb2':Below wr.heap.size wr w2:=⟨hb2.os,hb2.tape,hb2.output,hb2.size,hb2.block⟩;have t1:=(hb2'.cell (p:=⟨w.heap.size+1+1+1,0,none⟩) hz).trans c3;have t2:=(hb2'.cell (p:=⟨w.heap.size+1+1,k,none⟩) z2).trans a0;have t3:∀ j,w2.frozen? ⟨w.heap.size+1+1,j,none⟩=false:=(fun j=>(hb2'.frozen (p:=⟨w.heap.size+1+1,j,none⟩) z2).trans (ff j))))
   have HO2:Hid (ORow w2 wr.heap.size r2 x):=ho2
   have HB2:Hid (Below wr.heap.size wr w2):=hb2'
   clear ho2 hb2 hb2' t1
   go_wp2
   go_roundw
   case rel=>
    have hz2:=HB2.out.size
    have kp:∀ b,w.heap.size+4≤b→(w2.setCell ⟨w.heap.size+1+1,k,none⟩ (.slice r2.s r2.vs.length r2.c)).heap[b]? =w2.heap[b]? :=fun b hb=>Below.heap_setCell _ _ _ b (by show b≠w.heap.size+1+1;omega)
    refine ⟨k+1,S++[r2],by omega,by go_num,by simp [HS.out],(HB.out.trans (HB2.out.mono (by omega))).setCell (p:=⟨w.heap.size+1+1,k,none⟩) (by show w.heap.size≤w.heap.size+1+1;omega) _,by simp;omega,?_,?_,fun j=>?_,?_,fun i r l e1 e2=>?_,?_⟩
    ·rw [setC_blk (by omega)];exact (HB2.out.cell (p:=⟨w.heap.size+1+1+1,0,none⟩) hz).trans c3
    ·rw [setC_blk (by omega),HB2.out.cell (p:=⟨w.heap.size+1,0,none⟩) z1];exact HC1.out
    ·rw [World.frozen?_setCell,HB2.out.frozen (p:=⟨w.heap.size+1,j,none⟩) z1];exact HF1.out j
    ·have o2:w2.ownsRow (w.heap.size+2) 97 1 (.slice (some ⟨w.heap.size+1+1,0,none⟩) m.length m.length) m.length (S.map RS.val++List.replicate (m.length - k) (.slice none 0 0)):=ownKeep' HROW.out (fun b hb=>by have hb2:some (w.heap.size+1+1)=some b:=hb;injection hb2 with hb2;subst hb2;exact HB2.out.block _ z2)
     have p1:=(World.ownsRow.stored o2 k (.slice r2.s r2.vs.length r2.c)).1
     have e3:m.length - k=(m.length - (k+1))+1:=by omega
     have e4:(S.map RS.val++List.replicate (m.length - k) (Value.slice none 0 0)).set k (Value.slice r2.s r2.vs.length r2.c)=(S++[r2]).map RS.val++List.replicate (m.length - (k+1)) (Value.slice none 0 0):=by
      have f1:=setApp (List.replicate (m.length - k) (Value.slice none 0 0)) 0 (.slice r2.s r2.vs.length r2.c) (S.map RS.val)
      rw [List.length_map,HS.out,Nat.add_zero] at f1
      rw [f1,e3,List.replicate_succ,List.set_cons_zero]
      simp [RS.val]
     rw [e4] at p1
     exact p1
    ·rcases getElem?_push e1 with e1 | ⟨i1,rfl⟩
     ·have q:=HR.out i r l e1 e2
      have q2:=q.below HB2.out
      exact q2.kept (fun b e=>kp b (World.ownsRow.lt q2.own _ e).1) (fun a ha=>kp _ (q2.blk ha).1) (by simp)
     ·have e3:i=k:=by rw [i1,HS.out]
      subst e3
      rw [HX.out] at e2
      injection e2 with e2
      subst e2
      have q2:=HO2.out.low (B':=w.heap.size+4) (by omega)
      exact q2.kept (fun b e=>kp b (World.ownsRow.lt q2.own _ e).1) (fun a ha=>kp _ (q2.blk ha).1) (by simp)
    ·rw [mAs_app]
     refine List.nodup_append.2 ⟨HD.out,HO2.out.ro.d,fun a ha b hb e=>?_⟩
     subst e
     have h2:=(HO2.out.ro.blk hb).1
     obtain ⟨r,hr,har⟩:=mem_mAs.1 ha
     obtain ⟨i,hi',er⟩:=List.getElem_of_mem hr
     have hl':i < m.length:=by have:=HS.out;omega
     have h3:=((HR.out i r m[i] (by rw [List.getElem?_eq_getElem hi',er]) (List.getElem?_eq_getElem hl')).ro.blk har).2
     omega
   case measure=>simp [intOf];omega
  ·have e9:k=m.length:=by omega
   subst e9
   obtain ⟨u1,c1'⟩:=Option.isSome_iff_exists.1 HC1.out
   have f1:=HF1.out
   go_wp2
   have hrow:=HROW.out
   rw [Nat.sub_self,List.replicate_zero,List.append_nil] at hrow
   refine bodyPost_ret (v:=.agg #[.slice (some ⟨w.heap.size+1+1,0,none⟩) m.length m.length]) (by simp [results,Tryz.results95,go_sem,c1']) rfl ⟨_,S,rfl,?_,?_⟩
   ·have ow:OW wr (w.heap.size+2) (.slice (some ⟨w.heap.size+1+1,0,none⟩) m.length m.length) S m:=⟨HS.out,by rw [HS.out];exact hrow,fun i r l hr hl=>(HR.out i r l hr hl).low (by omega),HD.out⟩
    exact (ow.kept (fun b h1 _=>Below.heap_setCell _ _ _ b (by show b≠w.heap.size+1;omega)) (by simp)).low (by omega)
   ·exact HB.out.setCell (p:=⟨w.heap.size+1,0,none⟩) (by show w.heap.size≤w.heap.size+1;omega) _
end
end Go.Proofs.YtlbeploopclegaaGreat
