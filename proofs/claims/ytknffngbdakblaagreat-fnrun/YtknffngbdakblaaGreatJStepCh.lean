/- l4Chan of the specification, a case an op and an answer of the channel. Conditions: the thread and the channel are the source's, the registers four. -/
import Derived.Test.YtknffngbdakblaaGreatJG00
import Derived.Test.YtknffngbdakblaaGreatJG06
import Derived.Test.YtknffngbdakblaaGreatJSrcDup
import Derived.Test.YtknffngbdakblaaGreatJG03
import Derived.Test.YtknffngbdakblaaGreatJG01
import Derived.Test.YtknffngbdakblaaGreatJG04
import Derived.Test.YtknffngbdakblaaGreatJChTake
import Derived.Test.YtknffngbdakblaaGreatJG05
import Derived.Deep.RegionLaw
namespace Go.Proofs.YtknffngbdakblaaGreat
set_option linter.unusedSimpArgs false
set_option linter.unusedVariables false
set_option maxRecDepth 100000
open Go.RowKit
/- the boxes that l4Chan lays: a source's, a place's, the answer's, a channel's -/
structure Fr (H:Nat) (W:World) (v1 v2 v3:Value) (o r a b n:Int) (pa pb pc:Value):Prop where
 s:BoF H W v1 v2 v3
 x0:W.cell? ⟨H+1,0,none⟩=some (.int .i64 o)
 x1:W.cell? ⟨H+1,1,none⟩=some (.int .i64 r)
 x2:W.cell? ⟨H+1,2,none⟩=some (.int .i64 a)
 x3:W.cell? ⟨H+1,3,none⟩=some (.int .i64 b)
 x4:W.cell? ⟨H+1,4,none⟩=some (.int .i64 n)
 r:BoF (H+1+1) W (.slice none 0 0) (.slice none 0 0) (.slice none 0 0)
 c:BoF (H+1+1+1) W pa pb pc
 z:H+4≤W.heap.size
theorem Fr.keep {H:Nat} {W W':World} {v1 v2 v3:Value} {o r a b n:Int} {p q s:Value} (h:Fr H W v1 v2 v3 o r a b n p q s) (hb:Below (H+4) W W'):Fr H W' v1 v2 v3 o r a b n p q s:=
 ⟨h.s.below hb (by omega),(hb.cell (p:=⟨H+1,0,none⟩) (by show H+1 < H+4;omega)).trans h.x0,(hb.cell (p:=⟨H+1,1,none⟩) (by show H+1 < H+4;omega)).trans h.x1,(hb.cell (p:=⟨H+1,2,none⟩) (by show H+1 < H+4;omega)).trans h.x2,(hb.cell (p:=⟨H+1,3,none⟩) (by show H+1 < H+4;omega)).trans h.x3,(hb.cell (p:=⟨H+1,4,none⟩) (by show H+1 < H+4;omega)).trans h.x4,h.r.below hb (by omega),h.c.below hb (by omega),by have:=hb.size;have:=h.z;omega⟩
theorem frNew (w:World) (v1 v2 v3:Value) (o r a b n:Int) (p q s:Value) (T T' T'' T3:TypeId):∃ W,((((w.alloc (.cells #[v1,v2,v3] T)).alloc (.cells #[.int .i64 o,.int .i64 r,.int .i64 a,.int .i64 b,.int .i64 n] T')).alloc (.cells #[.slice none 0 0,.slice none 0 0,.slice none 0 0] T'')).alloc (.cells #[p,q,s] T3))=W∧Fr w.heap.size W v1 v2 v3 o r a b n p q s∧Below w.heap.size w W∧W.heap.size=w.heap.size+4:=by
 obtain ⟨W0,h0,b0,k0,z0⟩:=BoF.new w v1 v2 v3 T
 obtain ⟨W1,h1⟩:∃ W1,W0.alloc (.cells #[.int .i64 o,.int .i64 r,.int .i64 a,.int .i64 b,.int .i64 n] T')=W1:=⟨_,rfl⟩
 have z1:W1.heap.size=W0.heap.size+1:=by rw [← h1];simp
 have k1:Below W0.heap.size W0 W1:=by rw [← h1];exact (Below.refl _ _).alloc (Nat.le_refl _) _
 have x0:W1.cell? ⟨W0.heap.size,0,none⟩=some (.int .i64 o):=by rw [← h1];simp [go_sem]
 have x1:W1.cell? ⟨W0.heap.size,1,none⟩=some (.int .i64 r):=by rw [← h1];simp [go_sem]
 have x2:W1.cell? ⟨W0.heap.size,2,none⟩=some (.int .i64 a):=by rw [← h1];simp [go_sem]
 have x3:W1.cell? ⟨W0.heap.size,3,none⟩=some (.int .i64 b):=by rw [← h1];simp [go_sem]
 have x4:W1.cell? ⟨W0.heap.size,4,none⟩=some (.int .i64 n):=by rw [← h1];simp [go_sem]
 obtain ⟨W2,h2,b2,k2,z2⟩:=BoF.new W1 (.slice none 0 0) (.slice none 0 0) (.slice none 0 0) T''
 obtain ⟨W3,h3,b3,k3,z3⟩:=BoF.new W2 p q s T3
 have K:Below W1.heap.size W1 W3:=k2.trans (k3.mono (by omega))
 have e1:W0.heap.size=w.heap.size+1:=z0
 have e2:W1.heap.size=w.heap.size+1+1:=by omega
 have e3:W2.heap.size=w.heap.size+1+1+1:=by omega
 rw [e1] at x0 x1 x2 x3 x4
 rw [e2] at b2
 rw [e3] at b3
 have c:∀ j,W3.cell? ⟨w.heap.size+1,j,none⟩=W1.cell? ⟨w.heap.size+1,j,none⟩:=fun j=>K.cell (p:=⟨w.heap.size+1,j,none⟩) (by show w.heap.size+1 < _;omega)
 exact ⟨W3,by rw [h0,h1,h2,h3],⟨b0.below (k1.trans (K.mono (by omega))) (by omega),(c 0).trans x0,(c 1).trans x1,(c 2).trans x2,(c 3).trans x3,(c 4).trans x4,b2.below k3 (by omega),b3,by omega⟩,k0.trans ((k1.mono (by omega)).trans (K.mono (by omega))),by omega⟩
theorem Fr.putC {H:Nat} {W:World} {v1 v2 v3:Value} {o r a b n:Int} {p q s:Value} (h:Fr H W v1 v2 v3 o r a b n p q s) (p' q' s':Value):Fr H (((W.setCell ⟨H+1+1+1,0,none⟩ p').setCell ⟨H+1+1+1,1,none⟩ q').setCell ⟨H+1+1+1,2,none⟩ s') v1 v2 v3 o r a b n p' q' s':=by
 have hb:∀ B,B≠H+1+1+1→(((W.setCell ⟨H+1+1+1,0,none⟩ p').setCell ⟨H+1+1+1,1,none⟩ q').setCell ⟨H+1+1+1,2,none⟩ s').heap[B]? =W.heap[B]? :=fun B hB=>by rw [Below.heap_setCell _ _ _ B hB,Below.heap_setCell _ _ _ B hB,Below.heap_setCell _ _ _ B hB]
 have hc:∀ B j,B≠H+1+1+1→(((W.setCell ⟨H+1+1+1,0,none⟩ p').setCell ⟨H+1+1+1,1,none⟩ q').setCell ⟨H+1+1+1,2,none⟩ s').cell? ⟨B,j,none⟩=W.cell? ⟨B,j,none⟩:=fun B j hB=>World.cell?_of_block (w:=W) (a:=⟨B,j,none⟩) (hb B hB)
 exact ⟨h.s.keep (hb _ (by omega)) (by simp),(hc _ _ (by omega)).trans h.x0,(hc _ _ (by omega)).trans h.x1,(hc _ _ (by omega)).trans h.x2,(hc _ _ (by omega)).trans h.x3,(hc _ _ (by omega)).trans h.x4,h.r.keep (hb _ (by omega)) (by simp),((h.c.set0 p').set1 q').set2 s',by simpa using h.z⟩
theorem Fr.far {H:Nat} {W:World} {v1 v2 v3:Value} {o r a b n:Int} {p q s:Value} (h:Fr H W v1 v2 v3 o r a b n p q s) {g:Nat} (i:Nat) (v:Value) (hg:g < H):Fr H (W.setCell ⟨g,i,none⟩ v) v1 v2 v3 o r a b n p q s:=by
 have hb:∀ B,H≤B→(W.setCell ⟨g,i,none⟩ v).heap[B]? =W.heap[B]? :=fun B hB=>Below.heap_setCell _ _ _ B (by show B≠g;omega)
 have hc:∀ B j,H≤B→(W.setCell ⟨g,i,none⟩ v).cell? ⟨B,j,none⟩=W.cell? ⟨B,j,none⟩:=fun B j hB=>World.cell?_of_block (w:=W) (a:=⟨B,j,none⟩) (hb B hB)
 exact ⟨h.s.keep (hb _ (by omega)) (by simp),(hc _ _ (by omega)).trans h.x0,(hc _ _ (by omega)).trans h.x1,(hc _ _ (by omega)).trans h.x2,(hc _ _ (by omega)).trans h.x3,(hc _ _ (by omega)).trans h.x4,h.r.keep (hb _ (by omega)) (by simp),h.c.keep (hb _ (by omega)) (by simp),by simpa using h.z⟩
theorem drewB (w:World) (z:Nat):w.drew.heap[z]? =w.heap[z]? :=rfl
theorem OwnS.drew {w:World} {base:Nat} {v1 v2 v3:Value} {L1 L2:List (Rec×Value)} {d:SD} (h:OwnS w base v1 v2 v3 L1 L2 d):OwnS w.drew base v1 v2 v3 L1 L2 d:=h.keepB (fun _ _=>rfl)
theorem OwnS.alloc {w:World} {base:Nat} {v1 v2 v3:Value} {L1 L2:List (Rec×Value)} {d:SD} (h:OwnS w base v1 v2 v3 L1 L2 d) (o:Obj):OwnS (w.alloc o) base v1 v2 v3 L1 L2 d:=h.keep (fun k _ hk=>Below.heap_alloc _ _ _ hk)
theorem ownType_blk {w:World} {base g1 g2 gr n1 n2 c1 c2 cr k:Nat} {v3:Value} {L1 L2:List (Rec×Value)} {d:SD} {x:Rec×Value} (h:OwnS w base (.slice (some ⟨g1,0,none⟩) n1 c1) (.slice (some ⟨g2,0,none⟩) n2 c2) v3 L1 L2 d) (hx:L1[k]? =some x) (hx2:x.2=.slice (some ⟨gr,0,none⟩) 4 cr) (e:gr=g2):False:=
 ownType' (h.t.inn k x hx) h.c.row (by decide) (by rw [hx2];rfl) (by rw [e];rfl)
theorem set_same {α:Type} {L:List α} {k:Nat} {t:α} (h:L[k]? =some t):L.set k t=L:=by
 apply List.ext_getElem?
 intro j
 by_cases e:j=k
 ·subst e
  rw [List.getElem?_set_self (List.getElem?_eq_some_iff.1 h).1,h]
 ·rw [List.getElem?_set_ne (Ne.symm e)]
theorem ownCap {w:World} {base:Nat} {s:Option Addr} {c:Nat} {l:List Int} (h:OwnN w base (.slice s l.length c) l):l.length≤c:=by
 rcases h.2 with ⟨e,-⟩ | ⟨g,cap,cur,e,-,-,hnc,-⟩
 ·injection e with e1 e2 e3;omega
 ·injection e with e1 e2 e3;omega
theorem entSend (args:Array Value) (w:World):(callFunc 93 args).run Tryz.prog w=.ok (.enter 93 args) w:=by kernel_rfl
theorem entBit (args:Array Value) (w:World):(callFunc 78 args).run Tryz.prog w=.ok (.enter 78 args) w:=by kernel_rfl
set_option maxHeartbeats 4000000 in
theorem l4Chan_s5 (v1 v2 v3 : Value) (base : Nat) (L1 L2 : List (Rec × Value)) (d : SD) (k : Nat) (t : TD) (c : CD) (r a b n : Nat) (w : World) (hO : OwnS w base v1 v2 v3 L1 L2 d) (hb : base ≤ w.heap.size) (ht : d.ths[k]? = some t) (h4 : t.regs.length = 4) (hc : d.chs[n]? = some c) (hr : r < 4) (ha : a < 4) (hb4 : b < 4) (hcl : c.list.length ≤ 4) (hcn : d.chs.length ≤ 3) (hth : d.ths.length ≤ 4) (va : Int) (hva : t.regs.getD a 0 = va) :
  Calls Tryz.prog 79 #[.agg #[v1,v2,v3],.int .i64 k,.agg #[.int .i64 5,.int .i64 r,.int .i64 a,.int .i64 b,.int .i64 n]] w fun e w'=>∃ L1' L2',e=.returned (.tuple #[.agg #[v1,v2,v3],.int .i64 (sendK c.cap c.list c.cl)])∧OwnS w' base v1 v2 v3 L1' L2' ⟨d.ths.set k ⟨t.pc,t.regs,t.st⟩,d.chs.set n ⟨c.cap,sendL c.cap c.list c.cl va,c.cl⟩,d.tr⟩∧Below base w w'∧∀ b,b < w.heap.size→¬ HitS v1 v2 v3 L1 L2 b→w'.heap[b]? =w.heap[b]? :=by
 obtain ⟨g1,c1,x,hv1,hx,ex,hg0,hg1,e0,e1,e2,e3⟩:=hO.thread ht
 obtain ⟨gr,cr,hx2,hr0,hr1,er,erf⟩:=hO.regs hx ex h4
 obtain ⟨g2,c2,y,hv2,hy,ey,hc0,hc1,f0,f1,f2,f3⟩:=hO.chanAt hc
 have hyo:OwnN w base y.2 c.list:=by have h0:=hO.c.inn n y hy;rw [ey] at h0;exact h0
 obtain ⟨sc,cc,hy2,hyI⟩:=ownN_ints hyo
 have hcc:c.list.length≤cc:=by
  have h0:=hyo
  rw [hy2] at h0
  exact ownCap h0
 obtain ⟨s3,c3,hv3⟩:=ownSl hO.n
 have hkl:k < d.ths.length:=(List.getElem?_eq_some_iff.1 ht).1
 have hnl:n < d.chs.length:=(List.getElem?_eq_some_iff.1 hc).1
 subst hv1
 subst hv2
 subst hv3
 rw [hx2] at e1
 rw [hy2] at f1
 obtain ⟨W,hW,hF,kW,zW⟩:=frNew w (.slice (some ⟨g1,0,none⟩) d.ths.length c1) (.slice (some ⟨g2,0,none⟩) d.chs.length c2) (.slice s3 d.tr.length c3) 5 r a b n (.int .i64 c.cap) (.slice sc c.list.length cc) (.bool c.cl) 32 85 32 65
 have HW:=(show Hid _ from hW)
 have HZW:Hid (W.heap.size=w.heap.size+4):=zW
 have FR:=(show Hid _ from hF)
 have KW:=(show Hid _ from kW)
 have HO:=(show Hid _ from hO)
 have HT:=(show Hid (d.ths[k]? =some t) from ht)
 have HX:=(show Hid (L1[k]? =some x) from hx)
 have HX2:=(show Hid (x.2=.slice (some ⟨gr,0,none⟩) 4 cr) from hx2)
 have IW:Hid (IntsR W base w.heap.size sc c.list):=hyI.keep (Keep.of_below kW (by omega))
 have ERW:Hid (∀ i,i < 4→W.cell? ⟨gr,i,none⟩=some (.int .i64 (t.regs.getD i 0))):=fun i hi=>(kW.cell (p:=⟨gr,i,none⟩) hr1).trans (er i hi)
 have ERF:Hid (∀ j,W.frozen? ⟨gr,j,none⟩=false):=fun j=>(kW.frozen (p:=⟨gr,j,none⟩) hr1).trans (erf j)
 have fW0:=(kW.cell (p:=⟨g2,n * 3,none⟩) hc1).trans f0
 have fW1:=(kW.cell (p:=⟨g2,n * 3+1,none⟩) hc1).trans f1
 have fW2:=(kW.cell (p:=⟨g2,n * 3+2,none⟩) hc1).trans f2
 have fW3:∀ j,W.frozen? ⟨g2,j,none⟩=false:=fun j=>(kW.frozen (p:=⟨g2,j,none⟩) hc1).trans (f3 j)
 have era:=ERW.out a ha
 rw [hva] at era
 have qa:=hF.c.c0
 have qb:=hF.c.c1
 have qc:=hF.c.c2
 have qx:=hF.x2
 have i1:g1 < w.heap.size+1:=by omega
 have i2:g1 < w.heap.size+1+1:=by omega
 have i3:g2 < w.heap.size+1:=by omega
 have i4:g2 < w.heap.size+1+1:=by omega
 have n1:w.heap.size≠g2:=by omega
 have n2:w.heap.size+1≠g2:=by omega
 have n3:w.heap.size+1+1≠g2:=by omega
 have n4:w.heap.size+1+1+1≠g2:=by omega
 have b0:(0:Int)≤(k:Int):=by omega
 have b2:(k:Int) < (d.ths.length:Int):=by omega
 have b3:(0:Int)≤(n:Int):=by omega
 have b4:(n:Int) < (d.chs.length:Int):=by omega
 have b5:(0:Int)≤(a:Int):=by omega
 have b7:(0:Int)≤(r:Int):=by omega
 have b8:(r:Int) < 4:=by omega
 have b9:(0:Int)≤(b:Int):=by omega
 have b10:(b:Int) < 4:=by omega
 have n5:w.heap.size≠gr:=by omega
 have n6:w.heap.size+1≠gr:=by omega
 have n7:w.heap.size+1+1≠gr:=by omega
 have n8:w.heap.size+1+1+1≠gr:=by omega
 have b6:(a:Int) < 4:=by omega
 clear hO ht hx ex hyo hyI hW hF kW er erf hx2
 go_enter Tryz.func79,Tryz.ntmps79
 go_wp2
 rw [HW.out]
 go_region_law (refine stepC 93 #[.agg #[.int .i64 c.cap,.slice sc c.list.length cc,.bool c.cl],.int .i64 va] (by rfl) _ _ (by rfl) (by simp [go_sem]) entSend ?_;refine (specSend_any c.cap sc c.list cc c.cl va W.drew (rowI_of (IW.out.keep (fun _ _ _=>rfl)) (by show _≤W.heap.size;omega)) (by omega)).mono ?_;rintro e w5 ⟨u5,rfl,ho5',hb5',hz5'⟩;have hb5:Below W.heap.size W w5:=(Below.drew (Below.refl _ _)).trans hb5';have ho5:OwnN w5 W.heap.size u5 (sendL c.cap c.list c.cl va):=ho5';obtain ⟨s5,c5,rfl⟩:=ho5.sl;have F5:=FR.out.keep (hb5.mono (by omega));have h0:=F5.s.c0;have h1:=F5.s.c1;have h2:=F5.s.c2;have j0:=F5.x0;have j1:=F5.x1;have j2:=F5.x2;have j3:=F5.x3;have j4:=F5.x4;have m0:=F5.r.c0;have m1:=F5.r.c1;have m2:=F5.r.c2;have m3:=F5.r.f;have q0:=F5.c.c0;have q1:=F5.c.c1;have q2:=F5.c.c2;have q3:=F5.c.f;have e0':=(hb5.cell (p:=⟨g2,n * 3,none⟩) (by show g2 < _;omega)).trans fW0;have e1':=(hb5.cell (p:=⟨g2,n * 3+1,none⟩) (by show g2 < _;omega)).trans fW1;have e2':=(hb5.cell (p:=⟨g2,n * 3+2,none⟩) (by show g2 < _;omega)).trans fW2;have e3':∀ j,w5.frozen? ⟨g2,j,none⟩=false:=(fun j=>(hb5.frozen (p:=⟨g2,j,none⟩) (by show g2 < _;omega)).trans (fW3 j));have er':∀ i,i < 4→w5.cell? ⟨gr,i,none⟩=some (.int .i64 (t.regs.getD i 0)):=(fun i hi=>(hb5.cell (p:=⟨gr,i,none⟩) (by show gr < _;omega)).trans (ERW.out i hi));have erf':∀ j,w5.frozen? ⟨gr,j,none⟩=false:=(fun j=>(hb5.frozen (p:=⟨gr,j,none⟩) (by show gr < _;omega)).trans (ERF.out j));have z5:=hb5.size;have F5H:=(show Hid _ from F5);have U5:=(show Hid _ from ho5);have B5:=(show Hid _ from hb5);refine ⟨_,rfl,?_⟩)
 all_goals
  go_wp2
  have A5:OA w5 base w.heap.size (w5.heap.size+1000) (.slice (some ⟨g1,0,none⟩) d.ths.length c1) (.slice (some ⟨g2,0,none⟩) d.chs.length c2) (.slice s3 d.tr.length c3) L1 L2 d:=OA.of HO.out (KW.out.trans (B5.out.mono (by omega)))
  have A6:=((A5.cell (B:=w.heap.size+1+1+1) 0 (.int .i64 c.cap) (by omega) (by omega)).cell (B:=w.heap.size+1+1+1) 1 (.slice s5 (sendL c.cap c.list c.cl va).length c5) (by omega) (by omega)).cell (B:=w.heap.size+1+1+1) 2 (.bool (c.cl)) (by omega) (by omega)
  have zX:(((w5.setCell ⟨w.heap.size+1+1+1,0,none⟩ (.int .i64 c.cap)).setCell ⟨w.heap.size+1+1+1,1,none⟩ (.slice s5 (sendL c.cap c.list c.cl va).length c5)).setCell ⟨w.heap.size+1+1+1,2,none⟩ (.bool (c.cl))).heap.size=w5.heap.size:=by simp
  have hlt:∀ b,HitS (.slice (some ⟨g1,0,none⟩) d.ths.length c1) (.slice (some ⟨g2,0,none⟩) d.chs.length c2) (.slice s3 d.tr.length c3) L1 L2 b→b < w.heap.size:=fun b hb=>by rcases A6.h b hb with h | h;exact h;(have h1:=(A6.o.hit hb).2;rw [zX] at h1;omega)
  have A20:OA (((w5.setCell ⟨w.heap.size+1+1+1,0,none⟩ (.int .i64 c.cap)).setCell ⟨w.heap.size+1+1+1,1,none⟩ (.slice s5 (sendL c.cap c.list c.cl va).length c5)).setCell ⟨w.heap.size+1+1+1,2,none⟩ (.bool (c.cl))) base w.heap.size (w.heap.size+4) (.slice (some ⟨g1,0,none⟩) d.ths.length c1) (.slice (some ⟨g2,0,none⟩) d.chs.length c2) (.slice s3 d.tr.length c3) L1 L2 d:=⟨A6.o,fun b hb=>.inl (hlt b hb)⟩
  have U20:OwnN (((w5.setCell ⟨w.heap.size+1+1+1,0,none⟩ (.int .i64 c.cap)).setCell ⟨w.heap.size+1+1+1,1,none⟩ (.slice s5 (sendL c.cap c.list c.cl va).length c5)).setCell ⟨w.heap.size+1+1+1,2,none⟩ (.bool (c.cl))) W.heap.size (.slice s5 (sendL c.cap c.list c.cl va).length c5) (sendL c.cap c.list c.cl va):=ownKeep' U5.out (fun k hk=>by have hk2:=(World.ownsRow.lt U5.out _ hk).1;rw [Below.heap_setCell _ _ _ k (by show k≠w.heap.size+1+1+1;omega)];rw [Below.heap_setCell _ _ _ k (by show k≠w.heap.size+1+1+1;omega)];rw [Below.heap_setCell _ _ _ k (by show k≠w.heap.size+1+1+1;omega)])
  obtain ⟨N2,A21⟩:=OA.setC (d:=d) A20 (k:=n) hnl ⟨c.cap,sendL c.cap c.list c.cl va,c.cl⟩ (.slice s5 (sendL c.cap c.list c.cl va).length c5) W.heap.size U20 (by omega) (by omega) (fun b hb=>by have:=hlt b hb;omega)
  have A22:=((A21.cell (B:=w.heap.size+1+1) 0 (.slice (some ⟨g1,0,none⟩) d.ths.length c1) (by omega) (by omega)).cell (B:=w.heap.size+1+1) 1 (.slice (some ⟨g2,0,none⟩) d.chs.length c2) (by omega) (by omega)).cell (B:=w.heap.size+1+1) 2 (.slice s3 d.tr.length c3) (by omega) (by omega)
  have R5:BoF (w.heap.size+1+1) w5 (.slice none 0 0) (.slice none 0 0) (.slice none 0 0):=⟨m0,m1,m2,m3,by omega⟩
  have R6:BoF (w.heap.size+1+1) (set3 (((w5.setCell ⟨w.heap.size+1+1+1,0,none⟩ (.int .i64 c.cap)).setCell ⟨w.heap.size+1+1+1,1,none⟩ (.slice s5 (sendL c.cap c.list c.cl va).length c5)).setCell ⟨w.heap.size+1+1+1,2,none⟩ (.bool (c.cl))) g2 (n * 3) (.int .i64 c.cap) (.slice s5 (sendL c.cap c.list c.cl va).length c5) (.bool (c.cl))) (.slice none 0 0) (.slice none 0 0) (.slice none 0 0):=R5.keep (by rw [set3_block (by omega)];rw [Below.heap_setCell _ _ _ _ (by show w.heap.size+1+1≠w.heap.size+1+1+1;omega)];rw [Below.heap_setCell _ _ _ _ (by show w.heap.size+1+1≠w.heap.size+1+1+1;omega)];rw [Below.heap_setCell _ _ _ _ (by show w.heap.size+1+1≠w.heap.size+1+1+1;omega)]) (by rw [set3_size,zX];exact Nat.le_refl _)
  have R7:=((R6.set0 (.slice (some ⟨g1,0,none⟩) d.ths.length c1)).set1 (.slice (some ⟨g2,0,none⟩) d.chs.length c2)).set2 (.slice s3 d.tr.length c3)
  refine bodyPost_ret (v:=.tuple #[.agg #[.slice (some ⟨g1,0,none⟩) d.ths.length c1,.slice (some ⟨g2,0,none⟩) d.chs.length c2,.slice s3 d.tr.length c3],.int .i64 (sendK c.cap c.list c.cl)]) (by have y0:=R7.c0;have y1:=R7.c1;have y2:=R7.c2;unfold set3 at y0 y1 y2;simp [results,Tryz.results79,go_sem,y0,y1,y2]) rfl ⟨L1,N2,rfl,?_,((((((((((KW.out.mono hb).trans (B5.out.mono (by omega))).setCell (p:=⟨w.heap.size+1+1+1,0,none⟩) (by show base≤w.heap.size+1+1+1;omega) _).setCell (p:=⟨w.heap.size+1+1+1,1,none⟩) (by show base≤w.heap.size+1+1+1;omega) _).setCell (p:=⟨w.heap.size+1+1+1,2,none⟩) (by show base≤w.heap.size+1+1+1;omega) _).setCell (p:=⟨g2,n * 3,none⟩) hc0 _).setCell (p:=⟨g2,n * 3+1,none⟩) hc0 _).setCell (p:=⟨g2,n * 3+2,none⟩) hc0 _).setCell (p:=⟨w.heap.size+1+1,0,none⟩) (by show base≤w.heap.size+1+1;omega) _).setCell (p:=⟨w.heap.size+1+1,1,none⟩) (by show base≤w.heap.size+1+1;omega) _).setCell (p:=⟨w.heap.size+1+1,2,none⟩) (by show base≤w.heap.size+1+1;omega) _,fun z hz hn=>?_⟩
  rotate_left
  ·have ng:z≠gr:=fun e=>hn (.inl (.inr ⟨k,x,HX.out,by rw [HX2.out,e];rfl⟩));have n2':z≠g2:=fun e=>hn (.inr (.inl (.inl (by rw [e];rfl))))
   rw [Below.heap_setCell _ _ _ z (by show z≠w.heap.size+1+1;omega),Below.heap_setCell _ _ _ z (by show z≠w.heap.size+1+1;omega),Below.heap_setCell _ _ _ z (by show z≠w.heap.size+1+1;omega),Below.heap_setCell _ _ _ z n2',Below.heap_setCell _ _ _ z n2',Below.heap_setCell _ _ _ z n2',Below.heap_setCell _ _ _ z (by show z≠w.heap.size+1+1+1;omega),Below.heap_setCell _ _ _ z (by show z≠w.heap.size+1+1+1;omega),Below.heap_setCell _ _ _ z (by show z≠w.heap.size+1+1+1;omega)]
   exact (B5.out.block z (by omega)).trans (KW.out.block z hz)
  have o:=A22.o
  unfold set3 at o
  rw [set_same HT.out]
  exact o
set_option maxHeartbeats 4000000 in
theorem l4Chan_c9 (v1 v2 v3 : Value) (base : Nat) (L1 L2 : List (Rec × Value)) (d : SD) (k : Nat) (t : TD) (c : CD) (r a b n : Nat) (w : World) (hO : OwnS w base v1 v2 v3 L1 L2 d) (hb : base ≤ w.heap.size) (ht : d.ths[k]? = some t) (h4 : t.regs.length = 4) (hc : d.chs[n]? = some c) (hr : r < 4) (ha : a < 4) (hb4 : b < 4) (hcl : c.list.length ≤ 4) (hcn : d.chs.length ≤ 3) (hth : d.ths.length ≤ 4) (va : Int) (hva : t.regs.getD a 0 = va) :
  Calls Tryz.prog 79 #[.agg #[v1,v2,v3],.int .i64 k,.agg #[.int .i64 9,.int .i64 r,.int .i64 a,.int .i64 b,.int .i64 n]] w fun e w'=>∃ L1' L2',e=.returned (.tuple #[.agg #[v1,v2,v3],.int .i64 (closeK c.cap c.list c.cl)])∧OwnS w' base v1 v2 v3 L1' L2' ⟨d.ths.set k ⟨t.pc,t.regs,t.st⟩,d.chs.set n ⟨c.cap,c.list,closeB c.cap c.list c.cl⟩,d.tr⟩∧Below base w w'∧∀ b,b < w.heap.size→¬ HitS v1 v2 v3 L1 L2 b→w'.heap[b]? =w.heap[b]? :=by
 obtain ⟨g1,c1,x,hv1,hx,ex,hg0,hg1,e0,e1,e2,e3⟩:=hO.thread ht
 obtain ⟨gr,cr,hx2,hr0,hr1,er,erf⟩:=hO.regs hx ex h4
 obtain ⟨g2,c2,y,hv2,hy,ey,hc0,hc1,f0,f1,f2,f3⟩:=hO.chanAt hc
 have hyo:OwnN w base y.2 c.list:=by have h0:=hO.c.inn n y hy;rw [ey] at h0;exact h0
 obtain ⟨sc,cc,hy2,hyI⟩:=ownN_ints hyo
 have hcc:c.list.length≤cc:=by
  have h0:=hyo
  rw [hy2] at h0
  exact ownCap h0
 obtain ⟨s3,c3,hv3⟩:=ownSl hO.n
 have hkl:k < d.ths.length:=(List.getElem?_eq_some_iff.1 ht).1
 have hnl:n < d.chs.length:=(List.getElem?_eq_some_iff.1 hc).1
 subst hv1
 subst hv2
 subst hv3
 rw [hx2] at e1
 rw [hy2] at f1
 obtain ⟨W,hW,hF,kW,zW⟩:=frNew w (.slice (some ⟨g1,0,none⟩) d.ths.length c1) (.slice (some ⟨g2,0,none⟩) d.chs.length c2) (.slice s3 d.tr.length c3) 9 r a b n (.int .i64 c.cap) (.slice sc c.list.length cc) (.bool c.cl) 32 85 32 65
 have HW:=(show Hid _ from hW)
 have HZW:Hid (W.heap.size=w.heap.size+4):=zW
 have FR:=(show Hid _ from hF)
 have KW:=(show Hid _ from kW)
 have HO:=(show Hid _ from hO)
 have HT:=(show Hid (d.ths[k]? =some t) from ht)
 have HX:=(show Hid (L1[k]? =some x) from hx)
 have HX2:=(show Hid (x.2=.slice (some ⟨gr,0,none⟩) 4 cr) from hx2)
 have IW:Hid (IntsR W base w.heap.size sc c.list):=hyI.keep (Keep.of_below kW (by omega))
 have ERW:Hid (∀ i,i < 4→W.cell? ⟨gr,i,none⟩=some (.int .i64 (t.regs.getD i 0))):=fun i hi=>(kW.cell (p:=⟨gr,i,none⟩) hr1).trans (er i hi)
 have ERF:Hid (∀ j,W.frozen? ⟨gr,j,none⟩=false):=fun j=>(kW.frozen (p:=⟨gr,j,none⟩) hr1).trans (erf j)
 have fW0:=(kW.cell (p:=⟨g2,n * 3,none⟩) hc1).trans f0
 have fW1:=(kW.cell (p:=⟨g2,n * 3+1,none⟩) hc1).trans f1
 have fW2:=(kW.cell (p:=⟨g2,n * 3+2,none⟩) hc1).trans f2
 have fW3:∀ j,W.frozen? ⟨g2,j,none⟩=false:=fun j=>(kW.frozen (p:=⟨g2,j,none⟩) hc1).trans (f3 j)
 have era:=ERW.out a ha
 rw [hva] at era
 have qa:=hF.c.c0
 have qb:=hF.c.c1
 have qc:=hF.c.c2
 have qx:=hF.x2
 have i1:g1 < w.heap.size+1:=by omega
 have i2:g1 < w.heap.size+1+1:=by omega
 have i3:g2 < w.heap.size+1:=by omega
 have i4:g2 < w.heap.size+1+1:=by omega
 have n1:w.heap.size≠g2:=by omega
 have n2:w.heap.size+1≠g2:=by omega
 have n3:w.heap.size+1+1≠g2:=by omega
 have n4:w.heap.size+1+1+1≠g2:=by omega
 have b0:(0:Int)≤(k:Int):=by omega
 have b2:(k:Int) < (d.ths.length:Int):=by omega
 have b3:(0:Int)≤(n:Int):=by omega
 have b4:(n:Int) < (d.chs.length:Int):=by omega
 have b5:(0:Int)≤(a:Int):=by omega
 have b7:(0:Int)≤(r:Int):=by omega
 have b8:(r:Int) < 4:=by omega
 have b9:(0:Int)≤(b:Int):=by omega
 have b10:(b:Int) < 4:=by omega
 have n5:w.heap.size≠gr:=by omega
 have n6:w.heap.size+1≠gr:=by omega
 have n7:w.heap.size+1+1≠gr:=by omega
 have n8:w.heap.size+1+1+1≠gr:=by omega
 have b6:(a:Int) < 4:=by omega
 clear hO ht hx ex hyo hyI hW hF kW er erf hx2
 go_enter Tryz.func79,Tryz.ntmps79
 go_wp2_with (go_at_call 94;rw [HW.out];refine (specClose_any c.cap sc c.list cc c.cl W (rowI_of IW.out (by omega)) (by omega)).mono ?_;rintro e w5 ⟨u5,rfl,ho5',hb5',hz5'⟩;have hb5:Below W.heap.size W w5:=hb5';have ho5:OwnN w5 W.heap.size u5 (c.list):=ho5';obtain ⟨s5,c5,rfl⟩:=ho5.sl;have F5:=FR.out.keep (hb5.mono (by omega));have h0:=F5.s.c0;have h1:=F5.s.c1;have h2:=F5.s.c2;have j0:=F5.x0;have j1:=F5.x1;have j2:=F5.x2;have j3:=F5.x3;have j4:=F5.x4;have m0:=F5.r.c0;have m1:=F5.r.c1;have m2:=F5.r.c2;have m3:=F5.r.f;have q0:=F5.c.c0;have q1:=F5.c.c1;have q2:=F5.c.c2;have q3:=F5.c.f;have e0':=(hb5.cell (p:=⟨g2,n * 3,none⟩) (by show g2 < _;omega)).trans fW0;have e1':=(hb5.cell (p:=⟨g2,n * 3+1,none⟩) (by show g2 < _;omega)).trans fW1;have e2':=(hb5.cell (p:=⟨g2,n * 3+2,none⟩) (by show g2 < _;omega)).trans fW2;have e3':∀ j,w5.frozen? ⟨g2,j,none⟩=false:=(fun j=>(hb5.frozen (p:=⟨g2,j,none⟩) (by show g2 < _;omega)).trans (fW3 j));have er':∀ i,i < 4→w5.cell? ⟨gr,i,none⟩=some (.int .i64 (t.regs.getD i 0)):=(fun i hi=>(hb5.cell (p:=⟨gr,i,none⟩) (by show gr < _;omega)).trans (ERW.out i hi));have erf':∀ j,w5.frozen? ⟨gr,j,none⟩=false:=(fun j=>(hb5.frozen (p:=⟨gr,j,none⟩) (by show gr < _;omega)).trans (ERF.out j));have z5:=hb5.size;have F5H:=(show Hid _ from F5);have U5:=(show Hid _ from ho5);have B5:=(show Hid _ from hb5);clear ho5 ho5' hb5 hb5' hz5' F5 er' fW0 fW1 fW2 fW3)
 all_goals
  have A5:OA w5 base w.heap.size (w5.heap.size+1000) (.slice (some ⟨g1,0,none⟩) d.ths.length c1) (.slice (some ⟨g2,0,none⟩) d.chs.length c2) (.slice s3 d.tr.length c3) L1 L2 d:=OA.of HO.out (KW.out.trans (B5.out.mono (by omega)))
  have A6:=((A5.cell (B:=w.heap.size+1+1+1) 0 (.int .i64 c.cap) (by omega) (by omega)).cell (B:=w.heap.size+1+1+1) 1 (.slice s5 (c.list).length c5) (by omega) (by omega)).cell (B:=w.heap.size+1+1+1) 2 (.bool (closeB c.cap c.list c.cl)) (by omega) (by omega)
  have zX:(((w5.setCell ⟨w.heap.size+1+1+1,0,none⟩ (.int .i64 c.cap)).setCell ⟨w.heap.size+1+1+1,1,none⟩ (.slice s5 (c.list).length c5)).setCell ⟨w.heap.size+1+1+1,2,none⟩ (.bool (closeB c.cap c.list c.cl))).heap.size=w5.heap.size:=by simp
  have hlt:∀ b,HitS (.slice (some ⟨g1,0,none⟩) d.ths.length c1) (.slice (some ⟨g2,0,none⟩) d.chs.length c2) (.slice s3 d.tr.length c3) L1 L2 b→b < w.heap.size:=fun b hb=>by rcases A6.h b hb with h | h;exact h;(have h1:=(A6.o.hit hb).2;rw [zX] at h1;omega)
  have A20:OA (((w5.setCell ⟨w.heap.size+1+1+1,0,none⟩ (.int .i64 c.cap)).setCell ⟨w.heap.size+1+1+1,1,none⟩ (.slice s5 (c.list).length c5)).setCell ⟨w.heap.size+1+1+1,2,none⟩ (.bool (closeB c.cap c.list c.cl))) base w.heap.size (w.heap.size+4) (.slice (some ⟨g1,0,none⟩) d.ths.length c1) (.slice (some ⟨g2,0,none⟩) d.chs.length c2) (.slice s3 d.tr.length c3) L1 L2 d:=⟨A6.o,fun b hb=>.inl (hlt b hb)⟩
  have U20:OwnN (((w5.setCell ⟨w.heap.size+1+1+1,0,none⟩ (.int .i64 c.cap)).setCell ⟨w.heap.size+1+1+1,1,none⟩ (.slice s5 (c.list).length c5)).setCell ⟨w.heap.size+1+1+1,2,none⟩ (.bool (closeB c.cap c.list c.cl))) W.heap.size (.slice s5 (c.list).length c5) (c.list):=ownKeep' U5.out (fun k hk=>by have hk2:=(World.ownsRow.lt U5.out _ hk).1;rw [Below.heap_setCell _ _ _ k (by show k≠w.heap.size+1+1+1;omega)];rw [Below.heap_setCell _ _ _ k (by show k≠w.heap.size+1+1+1;omega)];rw [Below.heap_setCell _ _ _ k (by show k≠w.heap.size+1+1+1;omega)])
  obtain ⟨N2,A21⟩:=OA.setC (d:=d) A20 (k:=n) hnl ⟨c.cap,c.list,closeB c.cap c.list c.cl⟩ (.slice s5 (c.list).length c5) W.heap.size U20 (by omega) (by omega) (fun b hb=>by have:=hlt b hb;omega)
  have A22:=((A21.cell (B:=w.heap.size+1+1) 0 (.slice (some ⟨g1,0,none⟩) d.ths.length c1) (by omega) (by omega)).cell (B:=w.heap.size+1+1) 1 (.slice (some ⟨g2,0,none⟩) d.chs.length c2) (by omega) (by omega)).cell (B:=w.heap.size+1+1) 2 (.slice s3 d.tr.length c3) (by omega) (by omega)
  have R5:BoF (w.heap.size+1+1) w5 (.slice none 0 0) (.slice none 0 0) (.slice none 0 0):=⟨m0,m1,m2,m3,by omega⟩
  have R6:BoF (w.heap.size+1+1) (set3 (((w5.setCell ⟨w.heap.size+1+1+1,0,none⟩ (.int .i64 c.cap)).setCell ⟨w.heap.size+1+1+1,1,none⟩ (.slice s5 (c.list).length c5)).setCell ⟨w.heap.size+1+1+1,2,none⟩ (.bool (closeB c.cap c.list c.cl))) g2 (n * 3) (.int .i64 c.cap) (.slice s5 (c.list).length c5) (.bool (closeB c.cap c.list c.cl))) (.slice none 0 0) (.slice none 0 0) (.slice none 0 0):=R5.keep (by rw [set3_block (by omega)];rw [Below.heap_setCell _ _ _ _ (by show w.heap.size+1+1≠w.heap.size+1+1+1;omega)];rw [Below.heap_setCell _ _ _ _ (by show w.heap.size+1+1≠w.heap.size+1+1+1;omega)];rw [Below.heap_setCell _ _ _ _ (by show w.heap.size+1+1≠w.heap.size+1+1+1;omega)]) (by rw [set3_size,zX];exact Nat.le_refl _)
  have R7:=((R6.set0 (.slice (some ⟨g1,0,none⟩) d.ths.length c1)).set1 (.slice (some ⟨g2,0,none⟩) d.chs.length c2)).set2 (.slice s3 d.tr.length c3)
  refine bodyPost_ret (v:=.tuple #[.agg #[.slice (some ⟨g1,0,none⟩) d.ths.length c1,.slice (some ⟨g2,0,none⟩) d.chs.length c2,.slice s3 d.tr.length c3],.int .i64 (closeK c.cap c.list c.cl)]) (by have y0:=R7.c0;have y1:=R7.c1;have y2:=R7.c2;unfold set3 at y0 y1 y2;simp [results,Tryz.results79,go_sem,y0,y1,y2]) rfl ⟨L1,N2,rfl,?_,((((((((((KW.out.mono hb).trans (B5.out.mono (by omega))).setCell (p:=⟨w.heap.size+1+1+1,0,none⟩) (by show base≤w.heap.size+1+1+1;omega) _).setCell (p:=⟨w.heap.size+1+1+1,1,none⟩) (by show base≤w.heap.size+1+1+1;omega) _).setCell (p:=⟨w.heap.size+1+1+1,2,none⟩) (by show base≤w.heap.size+1+1+1;omega) _).setCell (p:=⟨g2,n * 3,none⟩) hc0 _).setCell (p:=⟨g2,n * 3+1,none⟩) hc0 _).setCell (p:=⟨g2,n * 3+2,none⟩) hc0 _).setCell (p:=⟨w.heap.size+1+1,0,none⟩) (by show base≤w.heap.size+1+1;omega) _).setCell (p:=⟨w.heap.size+1+1,1,none⟩) (by show base≤w.heap.size+1+1;omega) _).setCell (p:=⟨w.heap.size+1+1,2,none⟩) (by show base≤w.heap.size+1+1;omega) _,fun z hz hn=>?_⟩
  rotate_left
  ·have ng:z≠gr:=fun e=>hn (.inl (.inr ⟨k,x,HX.out,by rw [HX2.out,e];rfl⟩));have n2':z≠g2:=fun e=>hn (.inr (.inl (.inl (by rw [e];rfl))))
   rw [Below.heap_setCell _ _ _ z (by show z≠w.heap.size+1+1;omega),Below.heap_setCell _ _ _ z (by show z≠w.heap.size+1+1;omega),Below.heap_setCell _ _ _ z (by show z≠w.heap.size+1+1;omega),Below.heap_setCell _ _ _ z n2',Below.heap_setCell _ _ _ z n2',Below.heap_setCell _ _ _ z n2',Below.heap_setCell _ _ _ z (by show z≠w.heap.size+1+1+1;omega),Below.heap_setCell _ _ _ z (by show z≠w.heap.size+1+1+1;omega),Below.heap_setCell _ _ _ z (by show z≠w.heap.size+1+1+1;omega)]
   exact (B5.out.block z (by omega)).trans (KW.out.block z hz)
  have o:=A22.o
  unfold set3 at o
  rw [set_same HT.out]
  exact o
set_option maxHeartbeats 4000000 in
theorem l4Chan_t7f (v1 v2 v3 : Value) (base : Nat) (L1 L2 : List (Rec × Value)) (d : SD) (k : Nat) (t : TD) (c : CD) (r a b n : Nat) (w : World) (hO : OwnS w base v1 v2 v3 L1 L2 d) (hb : base ≤ w.heap.size) (ht : d.ths[k]? = some t) (h4 : t.regs.length = 4) (hc : d.chs[n]? = some c) (hr : r < 4) (ha : a < 4) (hb4 : b < 4) (hcl : c.list.length ≤ 4) (hcn : d.chs.length ≤ 3) (hth : d.ths.length ≤ 4) (va : Int) (hva : t.regs.getD a 0 = va) (hK : sendK c.cap c.list c.cl = 2) :
  Calls Tryz.prog 79 #[.agg #[v1,v2,v3],.int .i64 k,.agg #[.int .i64 7,.int .i64 r,.int .i64 a,.int .i64 b,.int .i64 n]] w fun e w'=>∃ L1' L2',e=.returned (.tuple #[.agg #[v1,v2,v3],.int .i64 (2)])∧OwnS w' base v1 v2 v3 L1' L2' ⟨d.ths.set k ⟨t.pc,t.regs,t.st⟩,d.chs.set n ⟨c.cap,sendL c.cap c.list c.cl va,c.cl⟩,d.tr⟩∧Below base w w'∧∀ b,b < w.heap.size→¬ HitS v1 v2 v3 L1 L2 b→w'.heap[b]? =w.heap[b]? :=by
 obtain ⟨g1,c1,x,hv1,hx,ex,hg0,hg1,e0,e1,e2,e3⟩:=hO.thread ht
 obtain ⟨gr,cr,hx2,hr0,hr1,er,erf⟩:=hO.regs hx ex h4
 obtain ⟨g2,c2,y,hv2,hy,ey,hc0,hc1,f0,f1,f2,f3⟩:=hO.chanAt hc
 have hyo:OwnN w base y.2 c.list:=by have h0:=hO.c.inn n y hy;rw [ey] at h0;exact h0
 obtain ⟨sc,cc,hy2,hyI⟩:=ownN_ints hyo
 have hcc:c.list.length≤cc:=by
  have h0:=hyo
  rw [hy2] at h0
  exact ownCap h0
 obtain ⟨s3,c3,hv3⟩:=ownSl hO.n
 have hkl:k < d.ths.length:=(List.getElem?_eq_some_iff.1 ht).1
 have hnl:n < d.chs.length:=(List.getElem?_eq_some_iff.1 hc).1
 subst hv1
 subst hv2
 subst hv3
 rw [hx2] at e1
 rw [hy2] at f1
 obtain ⟨W,hW,hF,kW,zW⟩:=frNew w (.slice (some ⟨g1,0,none⟩) d.ths.length c1) (.slice (some ⟨g2,0,none⟩) d.chs.length c2) (.slice s3 d.tr.length c3) 7 r a b n (.int .i64 c.cap) (.slice sc c.list.length cc) (.bool c.cl) 32 85 32 65
 have HW:=(show Hid _ from hW)
 have HK:Hid (sendK c.cap c.list c.cl=2):=hK
 clear hK
 have HZW:Hid (W.heap.size=w.heap.size+4):=zW
 have FR:=(show Hid _ from hF)
 have KW:=(show Hid _ from kW)
 have HO:=(show Hid _ from hO)
 have HT:=(show Hid (d.ths[k]? =some t) from ht)
 have HX:=(show Hid (L1[k]? =some x) from hx)
 have HX2:=(show Hid (x.2=.slice (some ⟨gr,0,none⟩) 4 cr) from hx2)
 have IW:Hid (IntsR W base w.heap.size sc c.list):=hyI.keep (Keep.of_below kW (by omega))
 have ERW:Hid (∀ i,i < 4→W.cell? ⟨gr,i,none⟩=some (.int .i64 (t.regs.getD i 0))):=fun i hi=>(kW.cell (p:=⟨gr,i,none⟩) hr1).trans (er i hi)
 have ERF:Hid (∀ j,W.frozen? ⟨gr,j,none⟩=false):=fun j=>(kW.frozen (p:=⟨gr,j,none⟩) hr1).trans (erf j)
 have fW0:=(kW.cell (p:=⟨g2,n * 3,none⟩) hc1).trans f0
 have fW1:=(kW.cell (p:=⟨g2,n * 3+1,none⟩) hc1).trans f1
 have fW2:=(kW.cell (p:=⟨g2,n * 3+2,none⟩) hc1).trans f2
 have fW3:∀ j,W.frozen? ⟨g2,j,none⟩=false:=fun j=>(kW.frozen (p:=⟨g2,j,none⟩) hc1).trans (f3 j)
 have era:=ERW.out a ha
 rw [hva] at era
 have qa:=hF.c.c0
 have qb:=hF.c.c1
 have qc:=hF.c.c2
 have qx:=hF.x2
 have i1:g1 < w.heap.size+1:=by omega
 have i2:g1 < w.heap.size+1+1:=by omega
 have i3:g2 < w.heap.size+1:=by omega
 have i4:g2 < w.heap.size+1+1:=by omega
 have n1:w.heap.size≠g2:=by omega
 have n2:w.heap.size+1≠g2:=by omega
 have n3:w.heap.size+1+1≠g2:=by omega
 have n4:w.heap.size+1+1+1≠g2:=by omega
 have b0:(0:Int)≤(k:Int):=by omega
 have b2:(k:Int) < (d.ths.length:Int):=by omega
 have b3:(0:Int)≤(n:Int):=by omega
 have b4:(n:Int) < (d.chs.length:Int):=by omega
 have b5:(0:Int)≤(a:Int):=by omega
 have b7:(0:Int)≤(r:Int):=by omega
 have b8:(r:Int) < 4:=by omega
 have b9:(0:Int)≤(b:Int):=by omega
 have b10:(b:Int) < 4:=by omega
 have n5:w.heap.size≠gr:=by omega
 have n6:w.heap.size+1≠gr:=by omega
 have n7:w.heap.size+1+1≠gr:=by omega
 have n8:w.heap.size+1+1+1≠gr:=by omega
 have b6:(a:Int) < 4:=by omega
 clear hO ht hx ex hyo hyI hW hF kW er erf hx2
 go_enter Tryz.func79,Tryz.ntmps79
 go_wp2
 rw [HW.out]
 go_region_law (refine stepC 93 #[.agg #[.int .i64 c.cap,.slice sc c.list.length cc,.bool c.cl],.int .i64 va] (by rfl) _ _ (by rfl) (by simp [go_sem]) entSend ?_;refine (specSend_any c.cap sc c.list cc c.cl va W.drew (rowI_of (IW.out.keep (fun _ _ _=>rfl)) (by show _≤W.heap.size;omega)) (by omega)).mono ?_;rintro e w5 ⟨u5,rfl,ho5',hb5',hz5'⟩;rw [HK.out];have hb5:Below W.heap.size W w5:=(Below.drew (Below.refl _ _)).trans hb5';have ho5:OwnN w5 W.heap.size u5 (sendL c.cap c.list c.cl va):=ho5';obtain ⟨s5,c5,rfl⟩:=ho5.sl;have F5:=FR.out.keep (hb5.mono (by omega));have h0:=F5.s.c0;have h1:=F5.s.c1;have h2:=F5.s.c2;have j0:=F5.x0;have j1:=F5.x1;have j2:=F5.x2;have j3:=F5.x3;have j4:=F5.x4;have m0:=F5.r.c0;have m1:=F5.r.c1;have m2:=F5.r.c2;have m3:=F5.r.f;have q0:=F5.c.c0;have q1:=F5.c.c1;have q2:=F5.c.c2;have q3:=F5.c.f;have e0':=(hb5.cell (p:=⟨g2,n * 3,none⟩) (by show g2 < _;omega)).trans fW0;have e1':=(hb5.cell (p:=⟨g2,n * 3+1,none⟩) (by show g2 < _;omega)).trans fW1;have e2':=(hb5.cell (p:=⟨g2,n * 3+2,none⟩) (by show g2 < _;omega)).trans fW2;have e3':∀ j,w5.frozen? ⟨g2,j,none⟩=false:=(fun j=>(hb5.frozen (p:=⟨g2,j,none⟩) (by show g2 < _;omega)).trans (fW3 j));have er':∀ i,i < 4→w5.cell? ⟨gr,i,none⟩=some (.int .i64 (t.regs.getD i 0)):=(fun i hi=>(hb5.cell (p:=⟨gr,i,none⟩) (by show gr < _;omega)).trans (ERW.out i hi));have erf':∀ j,w5.frozen? ⟨gr,j,none⟩=false:=(fun j=>(hb5.frozen (p:=⟨gr,j,none⟩) (by show gr < _;omega)).trans (ERF.out j));have z5:=hb5.size;have F5H:=(show Hid _ from F5);have U5:=(show Hid _ from ho5);have B5:=(show Hid _ from hb5);refine ⟨_,rfl,?_⟩)
 all_goals
  go_wp2
  have A5:OA w5 base w.heap.size (w5.heap.size+1000) (.slice (some ⟨g1,0,none⟩) d.ths.length c1) (.slice (some ⟨g2,0,none⟩) d.chs.length c2) (.slice s3 d.tr.length c3) L1 L2 d:=OA.of HO.out (KW.out.trans (B5.out.mono (by omega)))
  have A6:=((A5.cell (B:=w.heap.size+1+1+1) 0 (.int .i64 c.cap) (by omega) (by omega)).cell (B:=w.heap.size+1+1+1) 1 (.slice s5 (sendL c.cap c.list c.cl va).length c5) (by omega) (by omega)).cell (B:=w.heap.size+1+1+1) 2 (.bool (c.cl)) (by omega) (by omega)
  have zX:(((w5.setCell ⟨w.heap.size+1+1+1,0,none⟩ (.int .i64 c.cap)).setCell ⟨w.heap.size+1+1+1,1,none⟩ (.slice s5 (sendL c.cap c.list c.cl va).length c5)).setCell ⟨w.heap.size+1+1+1,2,none⟩ (.bool (c.cl))).heap.size=w5.heap.size:=by simp
  have hlt:∀ b,HitS (.slice (some ⟨g1,0,none⟩) d.ths.length c1) (.slice (some ⟨g2,0,none⟩) d.chs.length c2) (.slice s3 d.tr.length c3) L1 L2 b→b < w.heap.size:=fun b hb=>by rcases A6.h b hb with h | h;exact h;(have h1:=(A6.o.hit hb).2;rw [zX] at h1;omega)
  have A20:OA (((w5.setCell ⟨w.heap.size+1+1+1,0,none⟩ (.int .i64 c.cap)).setCell ⟨w.heap.size+1+1+1,1,none⟩ (.slice s5 (sendL c.cap c.list c.cl va).length c5)).setCell ⟨w.heap.size+1+1+1,2,none⟩ (.bool (c.cl))) base w.heap.size (w.heap.size+4) (.slice (some ⟨g1,0,none⟩) d.ths.length c1) (.slice (some ⟨g2,0,none⟩) d.chs.length c2) (.slice s3 d.tr.length c3) L1 L2 d:=⟨A6.o,fun b hb=>.inl (hlt b hb)⟩
  have U20:OwnN (((w5.setCell ⟨w.heap.size+1+1+1,0,none⟩ (.int .i64 c.cap)).setCell ⟨w.heap.size+1+1+1,1,none⟩ (.slice s5 (sendL c.cap c.list c.cl va).length c5)).setCell ⟨w.heap.size+1+1+1,2,none⟩ (.bool (c.cl))) W.heap.size (.slice s5 (sendL c.cap c.list c.cl va).length c5) (sendL c.cap c.list c.cl va):=ownKeep' U5.out (fun k hk=>by have hk2:=(World.ownsRow.lt U5.out _ hk).1;rw [Below.heap_setCell _ _ _ k (by show k≠w.heap.size+1+1+1;omega)];rw [Below.heap_setCell _ _ _ k (by show k≠w.heap.size+1+1+1;omega)];rw [Below.heap_setCell _ _ _ k (by show k≠w.heap.size+1+1+1;omega)])
  obtain ⟨N2,A21⟩:=OA.setC (d:=d) A20 (k:=n) hnl ⟨c.cap,sendL c.cap c.list c.cl va,c.cl⟩ (.slice s5 (sendL c.cap c.list c.cl va).length c5) W.heap.size U20 (by omega) (by omega) (fun b hb=>by have:=hlt b hb;omega)
  have A22:=((A21.cell (B:=w.heap.size+1+1) 0 (.slice (some ⟨g1,0,none⟩) d.ths.length c1) (by omega) (by omega)).cell (B:=w.heap.size+1+1) 1 (.slice (some ⟨g2,0,none⟩) d.chs.length c2) (by omega) (by omega)).cell (B:=w.heap.size+1+1) 2 (.slice s3 d.tr.length c3) (by omega) (by omega)
  have R5:BoF (w.heap.size+1+1) w5 (.slice none 0 0) (.slice none 0 0) (.slice none 0 0):=⟨m0,m1,m2,m3,by omega⟩
  have R6:BoF (w.heap.size+1+1) (set3 (((w5.setCell ⟨w.heap.size+1+1+1,0,none⟩ (.int .i64 c.cap)).setCell ⟨w.heap.size+1+1+1,1,none⟩ (.slice s5 (sendL c.cap c.list c.cl va).length c5)).setCell ⟨w.heap.size+1+1+1,2,none⟩ (.bool (c.cl))) g2 (n * 3) (.int .i64 c.cap) (.slice s5 (sendL c.cap c.list c.cl va).length c5) (.bool (c.cl))) (.slice none 0 0) (.slice none 0 0) (.slice none 0 0):=R5.keep (by rw [set3_block (by omega)];rw [Below.heap_setCell _ _ _ _ (by show w.heap.size+1+1≠w.heap.size+1+1+1;omega)];rw [Below.heap_setCell _ _ _ _ (by show w.heap.size+1+1≠w.heap.size+1+1+1;omega)];rw [Below.heap_setCell _ _ _ _ (by show w.heap.size+1+1≠w.heap.size+1+1+1;omega)]) (by rw [set3_size,zX];exact Nat.le_refl _)
  have R7:=((R6.set0 (.slice (some ⟨g1,0,none⟩) d.ths.length c1)).set1 (.slice (some ⟨g2,0,none⟩) d.chs.length c2)).set2 (.slice s3 d.tr.length c3)
  refine bodyPost_ret (v:=.tuple #[.agg #[.slice (some ⟨g1,0,none⟩) d.ths.length c1,.slice (some ⟨g2,0,none⟩) d.chs.length c2,.slice s3 d.tr.length c3],.int .i64 (2)]) (by have y0:=R7.c0;have y1:=R7.c1;have y2:=R7.c2;unfold set3 at y0 y1 y2;simp [results,Tryz.results79,go_sem,y0,y1,y2]) rfl ⟨L1,N2,rfl,?_,((((((((((KW.out.mono hb).trans (B5.out.mono (by omega))).setCell (p:=⟨w.heap.size+1+1+1,0,none⟩) (by show base≤w.heap.size+1+1+1;omega) _).setCell (p:=⟨w.heap.size+1+1+1,1,none⟩) (by show base≤w.heap.size+1+1+1;omega) _).setCell (p:=⟨w.heap.size+1+1+1,2,none⟩) (by show base≤w.heap.size+1+1+1;omega) _).setCell (p:=⟨g2,n * 3,none⟩) hc0 _).setCell (p:=⟨g2,n * 3+1,none⟩) hc0 _).setCell (p:=⟨g2,n * 3+2,none⟩) hc0 _).setCell (p:=⟨w.heap.size+1+1,0,none⟩) (by show base≤w.heap.size+1+1;omega) _).setCell (p:=⟨w.heap.size+1+1,1,none⟩) (by show base≤w.heap.size+1+1;omega) _).setCell (p:=⟨w.heap.size+1+1,2,none⟩) (by show base≤w.heap.size+1+1;omega) _,fun z hz hn=>?_⟩
  rotate_left
  ·have ng:z≠gr:=fun e=>hn (.inl (.inr ⟨k,x,HX.out,by rw [HX2.out,e];rfl⟩));have n2':z≠g2:=fun e=>hn (.inr (.inl (.inl (by rw [e];rfl))))
   rw [Below.heap_setCell _ _ _ z (by show z≠w.heap.size+1+1;omega),Below.heap_setCell _ _ _ z (by show z≠w.heap.size+1+1;omega),Below.heap_setCell _ _ _ z (by show z≠w.heap.size+1+1;omega),Below.heap_setCell _ _ _ z n2',Below.heap_setCell _ _ _ z n2',Below.heap_setCell _ _ _ z n2',Below.heap_setCell _ _ _ z (by show z≠w.heap.size+1+1+1;omega),Below.heap_setCell _ _ _ z (by show z≠w.heap.size+1+1+1;omega),Below.heap_setCell _ _ _ z (by show z≠w.heap.size+1+1+1;omega)]
   exact (B5.out.block z (by omega)).trans (KW.out.block z hz)
  have o:=A22.o
  unfold set3 at o
  rw [set_same HT.out]
  exact o
set_option maxHeartbeats 4000000 in
theorem l4Chan_k6w (v1 v2 v3 : Value) (base : Nat) (L1 L2 : List (Rec × Value)) (d : SD) (k : Nat) (t : TD) (c : CD) (r a b n : Nat) (w : World) (hO : OwnS w base v1 v2 v3 L1 L2 d) (hb : base ≤ w.heap.size) (ht : d.ths[k]? = some t) (h4 : t.regs.length = 4) (hc : d.chs[n]? = some c) (hr : r < 4) (ha : a < 4) (hb4 : b < 4) (hcl : c.list.length ≤ 4) (hcn : d.chs.length ≤ 3) (hth : d.ths.length ≤ 4) (va : Int) (hva : t.regs.getD a 0 = va) (hK : takeK c.cap c.list c.cl = 1) :
  Calls Tryz.prog 79 #[.agg #[v1,v2,v3],.int .i64 k,.agg #[.int .i64 6,.int .i64 r,.int .i64 a,.int .i64 b,.int .i64 n]] w fun e w'=>∃ L1' L2',e=.returned (.tuple #[.agg #[v1,v2,v3],.int .i64 (1)])∧OwnS w' base v1 v2 v3 L1' L2' ⟨d.ths.set k ⟨t.pc,t.regs,t.st⟩,d.chs.set n ⟨c.cap,takeL c.cap c.list,c.cl⟩,d.tr⟩∧Below base w w'∧∀ b,b < w.heap.size→¬ HitS v1 v2 v3 L1 L2 b→w'.heap[b]? =w.heap[b]? :=by
 obtain ⟨g1,c1,x,hv1,hx,ex,hg0,hg1,e0,e1,e2,e3⟩:=hO.thread ht
 obtain ⟨gr,cr,hx2,hr0,hr1,er,erf⟩:=hO.regs hx ex h4
 obtain ⟨g2,c2,y,hv2,hy,ey,hc0,hc1,f0,f1,f2,f3⟩:=hO.chanAt hc
 have hyo:OwnN w base y.2 c.list:=by have h0:=hO.c.inn n y hy;rw [ey] at h0;exact h0
 obtain ⟨sc,cc,hy2,hyI⟩:=ownN_ints hyo
 have hcc:c.list.length≤cc:=by
  have h0:=hyo
  rw [hy2] at h0
  exact ownCap h0
 obtain ⟨s3,c3,hv3⟩:=ownSl hO.n
 have hkl:k < d.ths.length:=(List.getElem?_eq_some_iff.1 ht).1
 have hnl:n < d.chs.length:=(List.getElem?_eq_some_iff.1 hc).1
 subst hv1
 subst hv2
 subst hv3
 rw [hx2] at e1
 rw [hy2] at f1
 obtain ⟨W,hW,hF,kW,zW⟩:=frNew w (.slice (some ⟨g1,0,none⟩) d.ths.length c1) (.slice (some ⟨g2,0,none⟩) d.chs.length c2) (.slice s3 d.tr.length c3) 6 r a b n (.int .i64 c.cap) (.slice sc c.list.length cc) (.bool c.cl) 32 85 32 65
 have HW:=(show Hid _ from hW)
 have HK:Hid (takeK c.cap c.list c.cl=1):=hK
 clear hK
 have HZW:Hid (W.heap.size=w.heap.size+4):=zW
 have FR:=(show Hid _ from hF)
 have KW:=(show Hid _ from kW)
 have HO:=(show Hid _ from hO)
 have HT:=(show Hid (d.ths[k]? =some t) from ht)
 have HX:=(show Hid (L1[k]? =some x) from hx)
 have HX2:=(show Hid (x.2=.slice (some ⟨gr,0,none⟩) 4 cr) from hx2)
 have IW:Hid (IntsR W base w.heap.size sc c.list):=hyI.keep (Keep.of_below kW (by omega))
 have ERW:Hid (∀ i,i < 4→W.cell? ⟨gr,i,none⟩=some (.int .i64 (t.regs.getD i 0))):=fun i hi=>(kW.cell (p:=⟨gr,i,none⟩) hr1).trans (er i hi)
 have ERF:Hid (∀ j,W.frozen? ⟨gr,j,none⟩=false):=fun j=>(kW.frozen (p:=⟨gr,j,none⟩) hr1).trans (erf j)
 have fW0:=(kW.cell (p:=⟨g2,n * 3,none⟩) hc1).trans f0
 have fW1:=(kW.cell (p:=⟨g2,n * 3+1,none⟩) hc1).trans f1
 have fW2:=(kW.cell (p:=⟨g2,n * 3+2,none⟩) hc1).trans f2
 have fW3:∀ j,W.frozen? ⟨g2,j,none⟩=false:=fun j=>(kW.frozen (p:=⟨g2,j,none⟩) hc1).trans (f3 j)
 have era:=ERW.out a ha
 rw [hva] at era
 have qa:=hF.c.c0
 have qb:=hF.c.c1
 have qc:=hF.c.c2
 have qx:=hF.x2
 have i1:g1 < w.heap.size+1:=by omega
 have i2:g1 < w.heap.size+1+1:=by omega
 have i3:g2 < w.heap.size+1:=by omega
 have i4:g2 < w.heap.size+1+1:=by omega
 have n1:w.heap.size≠g2:=by omega
 have n2:w.heap.size+1≠g2:=by omega
 have n3:w.heap.size+1+1≠g2:=by omega
 have n4:w.heap.size+1+1+1≠g2:=by omega
 have b0:(0:Int)≤(k:Int):=by omega
 have b2:(k:Int) < (d.ths.length:Int):=by omega
 have b3:(0:Int)≤(n:Int):=by omega
 have b4:(n:Int) < (d.chs.length:Int):=by omega
 have b5:(0:Int)≤(a:Int):=by omega
 have b7:(0:Int)≤(r:Int):=by omega
 have b8:(r:Int) < 4:=by omega
 have b9:(0:Int)≤(b:Int):=by omega
 have b10:(b:Int) < 4:=by omega
 have n5:w.heap.size≠gr:=by omega
 have n6:w.heap.size+1≠gr:=by omega
 have n7:w.heap.size+1+1≠gr:=by omega
 have n8:w.heap.size+1+1+1≠gr:=by omega
 have b6:(a:Int) < 4:=by omega
 clear hO ht hx ex hyo hyI hW hF kW er erf hx2
 go_enter Tryz.func79,Tryz.ntmps79
 go_wp2_with (go_at_call 95;rw [HW.out];refine (specTake_any c.cap sc c.list cc c.cl W (rowI_of IW.out (by omega)) (by omega) hcc).mono ?_;rintro e w5 ⟨u5,rfl,ho5',hb5',hz5'⟩;rw [HK.out];have hb5:Below W.heap.size W w5:=hb5';have ho5:OwnN w5 W.heap.size u5 (takeL c.cap c.list):=ho5';obtain ⟨s5,c5,rfl⟩:=ho5.sl;have F5:=FR.out.keep (hb5.mono (by omega));have h0:=F5.s.c0;have h1:=F5.s.c1;have h2:=F5.s.c2;have j0:=F5.x0;have j1:=F5.x1;have j2:=F5.x2;have j3:=F5.x3;have j4:=F5.x4;have m0:=F5.r.c0;have m1:=F5.r.c1;have m2:=F5.r.c2;have m3:=F5.r.f;have q0:=F5.c.c0;have q1:=F5.c.c1;have q2:=F5.c.c2;have q3:=F5.c.f;have e0':=(hb5.cell (p:=⟨g2,n * 3,none⟩) (by show g2 < _;omega)).trans fW0;have e1':=(hb5.cell (p:=⟨g2,n * 3+1,none⟩) (by show g2 < _;omega)).trans fW1;have e2':=(hb5.cell (p:=⟨g2,n * 3+2,none⟩) (by show g2 < _;omega)).trans fW2;have e3':∀ j,w5.frozen? ⟨g2,j,none⟩=false:=(fun j=>(hb5.frozen (p:=⟨g2,j,none⟩) (by show g2 < _;omega)).trans (fW3 j));have er':∀ i,i < 4→w5.cell? ⟨gr,i,none⟩=some (.int .i64 (t.regs.getD i 0)):=(fun i hi=>(hb5.cell (p:=⟨gr,i,none⟩) (by show gr < _;omega)).trans (ERW.out i hi));have erf':∀ j,w5.frozen? ⟨gr,j,none⟩=false:=(fun j=>(hb5.frozen (p:=⟨gr,j,none⟩) (by show gr < _;omega)).trans (ERF.out j));have z5:=hb5.size;have F5H:=(show Hid _ from F5);have U5:=(show Hid _ from ho5);have B5:=(show Hid _ from hb5);clear ho5 ho5' hb5 hb5' hz5' F5 er' fW0 fW1 fW2 fW3)
 all_goals
  have A5:OA w5 base w.heap.size (w5.heap.size+1000) (.slice (some ⟨g1,0,none⟩) d.ths.length c1) (.slice (some ⟨g2,0,none⟩) d.chs.length c2) (.slice s3 d.tr.length c3) L1 L2 d:=OA.of HO.out (KW.out.trans (B5.out.mono (by omega)))
  have A6:=((A5.cell (B:=w.heap.size+1+1+1) 0 (.int .i64 c.cap) (by omega) (by omega)).cell (B:=w.heap.size+1+1+1) 1 (.slice s5 (takeL c.cap c.list).length c5) (by omega) (by omega)).cell (B:=w.heap.size+1+1+1) 2 (.bool (c.cl)) (by omega) (by omega)
  have zX:(((w5.setCell ⟨w.heap.size+1+1+1,0,none⟩ (.int .i64 c.cap)).setCell ⟨w.heap.size+1+1+1,1,none⟩ (.slice s5 (takeL c.cap c.list).length c5)).setCell ⟨w.heap.size+1+1+1,2,none⟩ (.bool (c.cl))).heap.size=w5.heap.size:=by simp
  have hlt:∀ b,HitS (.slice (some ⟨g1,0,none⟩) d.ths.length c1) (.slice (some ⟨g2,0,none⟩) d.chs.length c2) (.slice s3 d.tr.length c3) L1 L2 b→b < w.heap.size:=fun b hb=>by rcases A6.h b hb with h | h;exact h;(have h1:=(A6.o.hit hb).2;rw [zX] at h1;omega)
  have A20:OA (((w5.setCell ⟨w.heap.size+1+1+1,0,none⟩ (.int .i64 c.cap)).setCell ⟨w.heap.size+1+1+1,1,none⟩ (.slice s5 (takeL c.cap c.list).length c5)).setCell ⟨w.heap.size+1+1+1,2,none⟩ (.bool (c.cl))) base w.heap.size (w.heap.size+4) (.slice (some ⟨g1,0,none⟩) d.ths.length c1) (.slice (some ⟨g2,0,none⟩) d.chs.length c2) (.slice s3 d.tr.length c3) L1 L2 d:=⟨A6.o,fun b hb=>.inl (hlt b hb)⟩
  have U20:OwnN (((w5.setCell ⟨w.heap.size+1+1+1,0,none⟩ (.int .i64 c.cap)).setCell ⟨w.heap.size+1+1+1,1,none⟩ (.slice s5 (takeL c.cap c.list).length c5)).setCell ⟨w.heap.size+1+1+1,2,none⟩ (.bool (c.cl))) W.heap.size (.slice s5 (takeL c.cap c.list).length c5) (takeL c.cap c.list):=ownKeep' U5.out (fun k hk=>by have hk2:=(World.ownsRow.lt U5.out _ hk).1;rw [Below.heap_setCell _ _ _ k (by show k≠w.heap.size+1+1+1;omega)];rw [Below.heap_setCell _ _ _ k (by show k≠w.heap.size+1+1+1;omega)];rw [Below.heap_setCell _ _ _ k (by show k≠w.heap.size+1+1+1;omega)])
  obtain ⟨N2,A21⟩:=OA.setC (d:=d) A20 (k:=n) hnl ⟨c.cap,takeL c.cap c.list,c.cl⟩ (.slice s5 (takeL c.cap c.list).length c5) W.heap.size U20 (by omega) (by omega) (fun b hb=>by have:=hlt b hb;omega)
  have A22:=((A21.cell (B:=w.heap.size+1+1) 0 (.slice (some ⟨g1,0,none⟩) d.ths.length c1) (by omega) (by omega)).cell (B:=w.heap.size+1+1) 1 (.slice (some ⟨g2,0,none⟩) d.chs.length c2) (by omega) (by omega)).cell (B:=w.heap.size+1+1) 2 (.slice s3 d.tr.length c3) (by omega) (by omega)
  have R5:BoF (w.heap.size+1+1) w5 (.slice none 0 0) (.slice none 0 0) (.slice none 0 0):=⟨m0,m1,m2,m3,by omega⟩
  have R6:BoF (w.heap.size+1+1) (set3 (((w5.setCell ⟨w.heap.size+1+1+1,0,none⟩ (.int .i64 c.cap)).setCell ⟨w.heap.size+1+1+1,1,none⟩ (.slice s5 (takeL c.cap c.list).length c5)).setCell ⟨w.heap.size+1+1+1,2,none⟩ (.bool (c.cl))) g2 (n * 3) (.int .i64 c.cap) (.slice s5 (takeL c.cap c.list).length c5) (.bool (c.cl))) (.slice none 0 0) (.slice none 0 0) (.slice none 0 0):=R5.keep (by rw [set3_block (by omega)];rw [Below.heap_setCell _ _ _ _ (by show w.heap.size+1+1≠w.heap.size+1+1+1;omega)];rw [Below.heap_setCell _ _ _ _ (by show w.heap.size+1+1≠w.heap.size+1+1+1;omega)];rw [Below.heap_setCell _ _ _ _ (by show w.heap.size+1+1≠w.heap.size+1+1+1;omega)]) (by rw [set3_size,zX];exact Nat.le_refl _)
  have R7:=((R6.set0 (.slice (some ⟨g1,0,none⟩) d.ths.length c1)).set1 (.slice (some ⟨g2,0,none⟩) d.chs.length c2)).set2 (.slice s3 d.tr.length c3)
  refine bodyPost_ret (v:=.tuple #[.agg #[.slice (some ⟨g1,0,none⟩) d.ths.length c1,.slice (some ⟨g2,0,none⟩) d.chs.length c2,.slice s3 d.tr.length c3],.int .i64 (1)]) (by have y0:=R7.c0;have y1:=R7.c1;have y2:=R7.c2;unfold set3 at y0 y1 y2;simp [results,Tryz.results79,go_sem,y0,y1,y2]) rfl ⟨L1,N2,rfl,?_,((((((((((KW.out.mono hb).trans (B5.out.mono (by omega))).setCell (p:=⟨w.heap.size+1+1+1,0,none⟩) (by show base≤w.heap.size+1+1+1;omega) _).setCell (p:=⟨w.heap.size+1+1+1,1,none⟩) (by show base≤w.heap.size+1+1+1;omega) _).setCell (p:=⟨w.heap.size+1+1+1,2,none⟩) (by show base≤w.heap.size+1+1+1;omega) _).setCell (p:=⟨g2,n * 3,none⟩) hc0 _).setCell (p:=⟨g2,n * 3+1,none⟩) hc0 _).setCell (p:=⟨g2,n * 3+2,none⟩) hc0 _).setCell (p:=⟨w.heap.size+1+1,0,none⟩) (by show base≤w.heap.size+1+1;omega) _).setCell (p:=⟨w.heap.size+1+1,1,none⟩) (by show base≤w.heap.size+1+1;omega) _).setCell (p:=⟨w.heap.size+1+1,2,none⟩) (by show base≤w.heap.size+1+1;omega) _,fun z hz hn=>?_⟩
  rotate_left
  ·have ng:z≠gr:=fun e=>hn (.inl (.inr ⟨k,x,HX.out,by rw [HX2.out,e];rfl⟩));have n2':z≠g2:=fun e=>hn (.inr (.inl (.inl (by rw [e];rfl))))
   rw [Below.heap_setCell _ _ _ z (by show z≠w.heap.size+1+1;omega),Below.heap_setCell _ _ _ z (by show z≠w.heap.size+1+1;omega),Below.heap_setCell _ _ _ z (by show z≠w.heap.size+1+1;omega),Below.heap_setCell _ _ _ z n2',Below.heap_setCell _ _ _ z n2',Below.heap_setCell _ _ _ z n2',Below.heap_setCell _ _ _ z (by show z≠w.heap.size+1+1+1;omega),Below.heap_setCell _ _ _ z (by show z≠w.heap.size+1+1+1;omega),Below.heap_setCell _ _ _ z (by show z≠w.heap.size+1+1+1;omega)]
   exact (B5.out.block z (by omega)).trans (KW.out.block z hz)
  have o:=A22.o
  unfold set3 at o
  rw [set_same HT.out]
  exact o
end Go.Proofs.YtknffngbdakblaaGreat
