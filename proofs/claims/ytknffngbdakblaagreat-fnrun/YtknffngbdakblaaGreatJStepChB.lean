/- l4Chan of the specification: a try to send that is done, or would wait. Conditions: as in StepCh. -/
import Derived.Test.YtknffngbdakblaaGreatJG00
import Derived.Test.YtknffngbdakblaaGreatJG06
import Derived.Test.YtknffngbdakblaaGreatJSrcDup
import Derived.Test.YtknffngbdakblaaGreatJG03
import Derived.Test.YtknffngbdakblaaGreatJG01
import Derived.Test.YtknffngbdakblaaGreatJG04
import Derived.Test.YtknffngbdakblaaGreatJStepCh
namespace Go.Proofs.YtknffngbdakblaaGreat
set_option linter.unusedSimpArgs false
set_option linter.unusedVariables false
set_option maxRecDepth 100000
open Go.RowKit
set_option maxHeartbeats 4000000 in
theorem l4Chan_t7a (v1 v2 v3 : Value) (base : Nat) (L1 L2 : List (Rec × Value)) (d : SD) (k : Nat) (t : TD) (c : CD) (r a b n : Nat) (w : World) (hO : OwnS w base v1 v2 v3 L1 L2 d) (hb : base ≤ w.heap.size) (ht : d.ths[k]? = some t) (h4 : t.regs.length = 4) (hc : d.chs[n]? = some c) (hr : r < 4) (ha : a < 4) (hb4 : b < 4) (hcl : c.list.length ≤ 4) (hcn : d.chs.length ≤ 3) (hth : d.ths.length ≤ 4) (va : Int) (hva : t.regs.getD a 0 = va) (hK : sendK c.cap c.list c.cl = 0) :
  Calls Tryz.prog 79 #[.agg #[v1,v2,v3],.int .i64 k,.agg #[.int .i64 7,.int .i64 r,.int .i64 a,.int .i64 b,.int .i64 n]] w fun e w'=>∃ L1' L2',e=.returned (.tuple #[.agg #[v1,v2,v3],.int .i64 (0)])∧OwnS w' base v1 v2 v3 L1' L2' ⟨d.ths.set k ⟨t.pc,(t.regs.set r (bitN true)),t.st⟩,d.chs.set n ⟨c.cap,sendL c.cap c.list c.cl va,c.cl⟩,d.tr⟩∧Below base w w'∧∀ b,b < w.heap.size→¬ HitS v1 v2 v3 L1 L2 b→w'.heap[b]? =w.heap[b]? :=by
 obtain ⟨g1,c1,x,hv1,hx,ex,hg0,hg1,e0,e1,e2,e3⟩:=hO.thread ht
 obtain ⟨gr,cr,hx2,hr0,hr1,er,erf⟩:=hO.regs hx ex h4
 obtain ⟨g2,c2,y,hv2,hy,ey,hc0,hc1,f0,f1,f2,f3⟩:=hO.chanAt hc
 have hyo:OwnN w base y.2 c.list:=by have h0:=hO.c.inn n y hy;rw [ey] at h0;exact h0
 obtain ⟨sc,cc,hy2,hyI⟩:=ownN_ints hyo
 have hcc:c.list.length≤cc:=by
  have h0:=hyo
  rw [hy2] at h0
  exact ownCap h0
 obtain ⟨s3,c3,hv3⟩:=ownSl hO.n
 have hkl:k < d.ths.length:=(List.getElem?_eq_some_iff.1 ht).1
 have hnl:n < d.chs.length:=(List.getElem?_eq_some_iff.1 hc).1
 subst hv1
 subst hv2
 subst hv3
 rw [hx2] at e1
 rw [hy2] at f1
 obtain ⟨W,hW,hF,kW,zW⟩:=frNew w (.slice (some ⟨g1,0,none⟩) d.ths.length c1) (.slice (some ⟨g2,0,none⟩) d.chs.length c2) (.slice s3 d.tr.length c3) 7 r a b n (.int .i64 c.cap) (.slice sc c.list.length cc) (.bool c.cl) 32 85 32 65
 have HW:=(show Hid _ from hW)
 have HK:Hid (sendK c.cap c.list c.cl=0):=hK
 clear hK
 have HZW:Hid (W.heap.size=w.heap.size+4):=zW
 have FR:=(show Hid _ from hF)
 have KW:=(show Hid _ from kW)
 have HO:=(show Hid _ from hO)
 have HT:=(show Hid (d.ths[k]? =some t) from ht)
 have HX:=(show Hid (L1[k]? =some x) from hx)
 have HX2:=(show Hid (x.2=.slice (some ⟨gr,0,none⟩) 4 cr) from hx2)
 have IW:Hid (IntsR W base w.heap.size sc c.list):=hyI.keep (Keep.of_below kW (by omega))
 have ERW:Hid (∀ i,i < 4→W.cell? ⟨gr,i,none⟩=some (.int .i64 (t.regs.getD i 0))):=fun i hi=>(kW.cell (p:=⟨gr,i,none⟩) hr1).trans (er i hi)
 have ERF:Hid (∀ j,W.frozen? ⟨gr,j,none⟩=false):=fun j=>(kW.frozen (p:=⟨gr,j,none⟩) hr1).trans (erf j)
 have fW0:=(kW.cell (p:=⟨g2,n * 3,none⟩) hc1).trans f0
 have fW1:=(kW.cell (p:=⟨g2,n * 3+1,none⟩) hc1).trans f1
 have fW2:=(kW.cell (p:=⟨g2,n * 3+2,none⟩) hc1).trans f2
 have fW3:∀ j,W.frozen? ⟨g2,j,none⟩=false:=fun j=>(kW.frozen (p:=⟨g2,j,none⟩) hc1).trans (f3 j)
 have era:=ERW.out a ha
 rw [hva] at era
 have qa:=hF.c.c0
 have qb:=hF.c.c1
 have qc:=hF.c.c2
 have qx:=hF.x2
 have i1:g1 < w.heap.size+1:=by omega
 have i2:g1 < w.heap.size+1+1:=by omega
 have i3:g2 < w.heap.size+1:=by omega
 have i4:g2 < w.heap.size+1+1:=by omega
 have n1:w.heap.size≠g2:=by omega
 have n2:w.heap.size+1≠g2:=by omega
 have n3:w.heap.size+1+1≠g2:=by omega
 have n4:w.heap.size+1+1+1≠g2:=by omega
 have b0:(0:Int)≤(k:Int):=by omega
 have b2:(k:Int) < (d.ths.length:Int):=by omega
 have b3:(0:Int)≤(n:Int):=by omega
 have b4:(n:Int) < (d.chs.length:Int):=by omega
 have b5:(0:Int)≤(a:Int):=by omega
 have b7:(0:Int)≤(r:Int):=by omega
 have b8:(r:Int) < 4:=by omega
 have b9:(0:Int)≤(b:Int):=by omega
 have b10:(b:Int) < 4:=by omega
 have n5:w.heap.size≠gr:=by omega
 have hne2:gr≠g2:=fun e=>ownType_blk HO.out HX.out HX2.out e
 have hne3:g2≠gr:=fun e=>hne2 e.symm
 have n6:w.heap.size+1≠gr:=by omega
 have n7:w.heap.size+1+1≠gr:=by omega
 have n8:w.heap.size+1+1+1≠gr:=by omega
 have b6:(a:Int) < 4:=by omega
 clear hO ht hx ex hyo hyI hW hF kW er erf hx2
 go_enter Tryz.func79,Tryz.ntmps79
 go_wp2
 rw [HW.out]
 go_region_law (refine stepC 93 #[.agg #[.int .i64 c.cap,.slice sc c.list.length cc,.bool c.cl],.int .i64 va] (by rfl) _ _ (by rfl) (by simp [go_sem]) entSend ?_;refine (specSend_any c.cap sc c.list cc c.cl va W.drew (rowI_of (IW.out.keep (fun _ _ _=>rfl)) (by show _≤W.heap.size;omega)) (by omega)).mono ?_;rintro e w5 ⟨u5,rfl,ho5',hb5',hz5'⟩;rw [HK.out];have hb5:Below W.heap.size W w5:=(Below.drew (Below.refl _ _)).trans hb5';have ho5:OwnN w5 W.heap.size u5 (sendL c.cap c.list c.cl va):=ho5';obtain ⟨s5,c5,rfl⟩:=ho5.sl;have F5:=FR.out.keep (hb5.mono (by omega));have h0:=F5.s.c0;have h1:=F5.s.c1;have h2:=F5.s.c2;have j0:=F5.x0;have j1:=F5.x1;have j2:=F5.x2;have j3:=F5.x3;have j4:=F5.x4;have m0:=F5.r.c0;have m1:=F5.r.c1;have m2:=F5.r.c2;have m3:=F5.r.f;have q0:=F5.c.c0;have q1:=F5.c.c1;have q2:=F5.c.c2;have q3:=F5.c.f;have e0':=(hb5.cell (p:=⟨g2,n * 3,none⟩) (by show g2 < _;omega)).trans fW0;have e1':=(hb5.cell (p:=⟨g2,n * 3+1,none⟩) (by show g2 < _;omega)).trans fW1;have e2':=(hb5.cell (p:=⟨g2,n * 3+2,none⟩) (by show g2 < _;omega)).trans fW2;have e3':∀ j,w5.frozen? ⟨g2,j,none⟩=false:=(fun j=>(hb5.frozen (p:=⟨g2,j,none⟩) (by show g2 < _;omega)).trans (fW3 j));have er':∀ i,i < 4→w5.cell? ⟨gr,i,none⟩=some (.int .i64 (t.regs.getD i 0)):=(fun i hi=>(hb5.cell (p:=⟨gr,i,none⟩) (by show gr < _;omega)).trans (ERW.out i hi));have erf':∀ j,w5.frozen? ⟨gr,j,none⟩=false:=(fun j=>(hb5.frozen (p:=⟨gr,j,none⟩) (by show gr < _;omega)).trans (ERF.out j));have z5:=hb5.size;have F5H:=(show Hid _ from F5);have U5:=(show Hid _ from ho5);have B5:=(show Hid _ from hb5);have err:=er' r (by omega);refine ⟨_,rfl,?_⟩)
 all_goals
  go_wp2
  have A5:OA w5 base w.heap.size (w5.heap.size+1000) (.slice (some ⟨g1,0,none⟩) d.ths.length c1) (.slice (some ⟨g2,0,none⟩) d.chs.length c2) (.slice s3 d.tr.length c3) L1 L2 d:=OA.of HO.out (KW.out.trans (B5.out.mono (by omega)))
  have A6:=((A5.cell (B:=w.heap.size+1+1+1) 0 (.int .i64 c.cap) (by omega) (by omega)).cell (B:=w.heap.size+1+1+1) 1 (.slice s5 (sendL c.cap c.list c.cl va).length c5) (by omega) (by omega)).cell (B:=w.heap.size+1+1+1) 2 (.bool (c.cl)) (by omega) (by omega)
  have F6:=F5H.out.putC (.int .i64 c.cap) (.slice s5 (sendL c.cap c.list c.cl va).length c5) (.bool (c.cl))
  have U6:OwnN (((w5.setCell ⟨w.heap.size+1+1+1,0,none⟩ (.int .i64 c.cap)).setCell ⟨w.heap.size+1+1+1,1,none⟩ (.slice s5 (sendL c.cap c.list c.cl va).length c5)).setCell ⟨w.heap.size+1+1+1,2,none⟩ (.bool (c.cl))) W.heap.size (.slice s5 (sendL c.cap c.list c.cl va).length c5) (sendL c.cap c.list c.cl va):=ownKeep' U5.out (fun k hk=>by have hk2:=(World.ownsRow.lt U5.out _ hk).1;rw [Below.heap_setCell _ _ _ k (by show k≠w.heap.size+1+1+1;omega)];rw [Below.heap_setCell _ _ _ k (by show k≠w.heap.size+1+1+1;omega)];rw [Below.heap_setCell _ _ _ k (by show k≠w.heap.size+1+1+1;omega)])
  have K6:Below base w (((w5.setCell ⟨w.heap.size+1+1+1,0,none⟩ (.int .i64 c.cap)).setCell ⟨w.heap.size+1+1+1,1,none⟩ (.slice s5 (sendL c.cap c.list c.cl va).length c5)).setCell ⟨w.heap.size+1+1+1,2,none⟩ (.bool (c.cl))):=((((KW.out.mono hb).trans (B5.out.mono (by omega))).setCell (p:=⟨w.heap.size+1+1+1,0,none⟩) (by show base≤w.heap.size+1+1+1;omega) _).setCell (p:=⟨w.heap.size+1+1+1,1,none⟩) (by show base≤w.heap.size+1+1+1;omega) _).setCell (p:=⟨w.heap.size+1+1+1,2,none⟩) (by show base≤w.heap.size+1+1+1;omega) _
  have z6:(((w5.setCell ⟨w.heap.size+1+1+1,0,none⟩ (.int .i64 c.cap)).setCell ⟨w.heap.size+1+1+1,1,none⟩ (.slice s5 (sendL c.cap c.list c.cl va).length c5)).setCell ⟨w.heap.size+1+1+1,2,none⟩ (.bool (c.cl))).heap.size=w5.heap.size:=by simp
  have fr6:∀ z,z < w.heap.size→¬ HitS (.slice (some ⟨g1,0,none⟩) d.ths.length c1) (.slice (some ⟨g2,0,none⟩) d.chs.length c2) (.slice s3 d.tr.length c3) L1 L2 z→(((w5.setCell ⟨w.heap.size+1+1+1,0,none⟩ (.int .i64 c.cap)).setCell ⟨w.heap.size+1+1+1,1,none⟩ (.slice s5 (sendL c.cap c.list c.cl va).length c5)).setCell ⟨w.heap.size+1+1+1,2,none⟩ (.bool (c.cl))).heap[z]? =w.heap[z]? :=fun z hz hn=>by have ng:z≠gr:=fun e=>hn (.inl (.inr ⟨k,x,HX.out,by rw [HX2.out,e];rfl⟩));have n2':z≠g2:=fun e=>hn (.inr (.inl (.inl (by rw [e];rfl))));rw [Below.heap_setCell _ _ _ z (by show z≠w.heap.size+1+1+1;omega),Below.heap_setCell _ _ _ z (by show z≠w.heap.size+1+1+1;omega),Below.heap_setCell _ _ _ z (by show z≠w.heap.size+1+1+1;omega)];exact (B5.out.block z (by omega)).trans (KW.out.block z hz)
  have er6:(((w5.setCell ⟨w.heap.size+1+1+1,0,none⟩ (.int .i64 c.cap)).setCell ⟨w.heap.size+1+1+1,1,none⟩ (.slice s5 (sendL c.cap c.list c.cl va).length c5)).setCell ⟨w.heap.size+1+1+1,2,none⟩ (.bool (c.cl))).cell? ⟨gr,r,none⟩=some (.int .i64 (t.regs.getD r 0)):=(setC_blk (by omega)).trans ((setC_blk (by omega)).trans ((setC_blk (by omega)).trans err))
  have ef6:∀ j,(((w5.setCell ⟨w.heap.size+1+1+1,0,none⟩ (.int .i64 c.cap)).setCell ⟨w.heap.size+1+1+1,1,none⟩ (.slice s5 (sendL c.cap c.list c.cl va).length c5)).setCell ⟨w.heap.size+1+1+1,2,none⟩ (.bool (c.cl))).frozen? ⟨gr,j,none⟩=false:=fun j=>by simp only [World.frozen?_setCell];exact erf' j
  have g60:=(show (((w5.setCell ⟨w.heap.size+1+1+1,0,none⟩ (.int .i64 c.cap)).setCell ⟨w.heap.size+1+1+1,1,none⟩ (.slice s5 (sendL c.cap c.list c.cl va).length c5)).setCell ⟨w.heap.size+1+1+1,2,none⟩ (.bool (c.cl))).cell? ⟨g2,n * 3,none⟩=_ from (setC_blk (by omega)).trans ((setC_blk (by omega)).trans ((setC_blk (by omega)).trans e0')))
  have g61:=(show (((w5.setCell ⟨w.heap.size+1+1+1,0,none⟩ (.int .i64 c.cap)).setCell ⟨w.heap.size+1+1+1,1,none⟩ (.slice s5 (sendL c.cap c.list c.cl va).length c5)).setCell ⟨w.heap.size+1+1+1,2,none⟩ (.bool (c.cl))).cell? ⟨g2,n * 3+1,none⟩=_ from (setC_blk (by omega)).trans ((setC_blk (by omega)).trans ((setC_blk (by omega)).trans e1')))
  have g62:=(show (((w5.setCell ⟨w.heap.size+1+1+1,0,none⟩ (.int .i64 c.cap)).setCell ⟨w.heap.size+1+1+1,1,none⟩ (.slice s5 (sendL c.cap c.list c.cl va).length c5)).setCell ⟨w.heap.size+1+1+1,2,none⟩ (.bool (c.cl))).cell? ⟨g2,n * 3+2,none⟩=_ from (setC_blk (by omega)).trans ((setC_blk (by omega)).trans ((setC_blk (by omega)).trans e2')))
  have g63:∀ j,(((w5.setCell ⟨w.heap.size+1+1+1,0,none⟩ (.int .i64 c.cap)).setCell ⟨w.heap.size+1+1+1,1,none⟩ (.slice s5 (sendL c.cap c.list c.cl va).length c5)).setCell ⟨w.heap.size+1+1+1,2,none⟩ (.bool (c.cl))).frozen? ⟨g2,j,none⟩=false:=fun j=>by simp only [World.frozen?_setCell];exact e3' j
  obtain ⟨X6,hX6⟩:∃ X6,(((w5.setCell ⟨w.heap.size+1+1+1,0,none⟩ (.int .i64 c.cap)).setCell ⟨w.heap.size+1+1+1,1,none⟩ (.slice s5 (sendL c.cap c.list c.cl va).length c5)).setCell ⟨w.heap.size+1+1+1,2,none⟩ (.bool (c.cl)))=X6:=⟨_,rfl⟩
  rw [hX6] at A6 F6 U6 K6 z6 fr6 er6 ef6 g60 g61 g62 g63 ⊢
  clear hX6 h0 h1 h2 j0 j1 j2 j3 j4 m0 m1 m2 m3 q0 q1 q2 q3 e0' e1' e2' e3' erf' err
  have h0:=F6.s.c0
  have h1:=F6.s.c1
  have h2:=F6.s.c2
  have j0:=F6.x0
  have j1:=F6.x1
  have j2:=F6.x2
  have j3:=F6.x3
  have j4:=F6.x4
  have m0:=F6.r.c0
  have m1:=F6.r.c1
  have m2:=F6.r.c2
  have m3:=F6.r.f
  have q0:=F6.c.c0
  have q1:=F6.c.c1
  have q2:=F6.c.c2
  have zz6:w.heap.size+4≤X6.heap.size:=F6.z
  have AH:=(show Hid _ from A6)
  have FH:=(show Hid _ from F6)
  have UH:=(show Hid _ from U6)
  have KH:=(show Hid _ from K6)
  have ZH:Hid (X6.heap.size=w5.heap.size):=z6
  have FRH:=(show Hid _ from fr6)
  clear z6 fr6
  clear A6 F6 U6 K6 A5 hva
  go_region_law (refine stepC 78 #[.bool true] (by rfl) _ _ (by rfl) (by simp [go_sem]) entBit ?_;refine (l4Bit_any true _).mono ?_;rintro e w6 ⟨rfl,hw6⟩;rw [hw6];clear hw6 w6;refine ⟨_,rfl,?_⟩)
  all_goals go_wp2
  all_goals
   have zW2:=HZW.out
   obtain ⟨Mz,xz,hxz,hyz,A8⟩:=AH.out.setR HX.out HT.out HX2.out h4 r (bitN true)
   have zX:(X6.setCell ⟨gr,r,none⟩ (.int .i64 (bitN true))).heap.size=w5.heap.size:=by rw [World.size_setCell];exact ZH.out
   have hlt:∀ b,HitS (.slice (some ⟨g1,0,none⟩) d.ths.length c1) (.slice (some ⟨g2,0,none⟩) d.chs.length c2) (.slice s3 d.tr.length c3) Mz L2 b→b < w.heap.size:=fun b hb=>by rcases A8.h b hb with h | h;exact h;(have h1:=(A8.o.hit hb).2;rw [zX] at h1;omega)
   have A20:OA (X6.setCell ⟨gr,r,none⟩ (.int .i64 (bitN true))) base w.heap.size (w.heap.size+4) (.slice (some ⟨g1,0,none⟩) d.ths.length c1) (.slice (some ⟨g2,0,none⟩) d.chs.length c2) (.slice s3 d.tr.length c3) Mz L2 ⟨(d.ths.set k ⟨t.pc,t.regs.set r (bitN true),t.st⟩),d.chs,d.tr⟩:=⟨A8.o,fun b hb=>.inl (hlt b hb)⟩
   have U20:OwnN (X6.setCell ⟨gr,r,none⟩ (.int .i64 (bitN true))) W.heap.size (.slice s5 (sendL c.cap c.list c.cl va).length c5) (sendL c.cap c.list c.cl va):=ownKeep' UH.out (fun k hk=>by have hk2:=(World.ownsRow.lt UH.out _ hk).1;rw [Below.heap_setCell _ _ _ k (by show k≠gr;omega)])
   obtain ⟨N2,A21⟩:=OA.setC (d:=⟨(d.ths.set k ⟨t.pc,t.regs.set r (bitN true),t.st⟩),d.chs,d.tr⟩) A20 (k:=n) hnl ⟨c.cap,sendL c.cap c.list c.cl va,c.cl⟩ (.slice s5 (sendL c.cap c.list c.cl va).length c5) W.heap.size U20 (by omega) (by omega) (fun b hb=>by have:=hlt b hb;omega)
   have A22:=((A21.cell (B:=w.heap.size+1+1) 0 (.slice (some ⟨g1,0,none⟩) d.ths.length c1) (by omega) (by omega)).cell (B:=w.heap.size+1+1) 1 (.slice (some ⟨g2,0,none⟩) d.chs.length c2) (by omega) (by omega)).cell (B:=w.heap.size+1+1) 2 (.slice s3 d.tr.length c3) (by omega) (by omega)
   have R6:BoF (w.heap.size+1+1) (set3 (X6.setCell ⟨gr,r,none⟩ (.int .i64 (bitN true))) g2 (n * 3) (.int .i64 c.cap) (.slice s5 (sendL c.cap c.list c.cl va).length c5) (.bool (c.cl))) (.slice none 0 0) (.slice none 0 0) (.slice none 0 0):=FH.out.r.keep (by rw [set3_block (by omega),Below.heap_setCell _ _ _ _ (by show w.heap.size+1+1≠gr;omega)]) (by rw [set3_size,World.size_setCell];exact Nat.le_refl _)
   have R7:=((R6.set0 (.slice (some ⟨g1,0,none⟩) d.ths.length c1)).set1 (.slice (some ⟨g2,0,none⟩) d.chs.length c2)).set2 (.slice s3 d.tr.length c3)
   refine bodyPost_ret (v:=.tuple #[.agg #[.slice (some ⟨g1,0,none⟩) d.ths.length c1,.slice (some ⟨g2,0,none⟩) d.chs.length c2,.slice s3 d.tr.length c3],.int .i64 (0)]) (by have y0:=R7.c0;have y1:=R7.c1;have y2:=R7.c2;unfold set3 at y0 y1 y2;simp [results,Tryz.results79,go_sem,y0,y1,y2]) rfl ⟨Mz,N2,rfl,?_,Below.drew ((((((((KH.out).setCell (p:=⟨gr,r,none⟩) hr0 _).setCell (p:=⟨g2,n * 3,none⟩) hc0 _).setCell (p:=⟨g2,n * 3+1,none⟩) hc0 _).setCell (p:=⟨g2,n * 3+2,none⟩) hc0 _).setCell (p:=⟨w.heap.size+1+1,0,none⟩) (by show base≤w.heap.size+1+1;omega) _).setCell (p:=⟨w.heap.size+1+1,1,none⟩) (by show base≤w.heap.size+1+1;omega) _).setCell (p:=⟨w.heap.size+1+1,2,none⟩) (by show base≤w.heap.size+1+1;omega) _),fun z hz hn=>?_⟩
   rotate_left
   ·have ng:z≠gr:=fun e=>hn (.inl (.inr ⟨k,x,HX.out,by rw [HX2.out,e];rfl⟩));have n2':z≠g2:=fun e=>hn (.inr (.inl (.inl (by rw [e];rfl))))
    have hch:((((set3 (X6.setCell ⟨gr,r,none⟩ (.int .i64 (bitN true))) g2 (n * 3) (.int .i64 c.cap) (.slice s5 (sendL c.cap c.list c.cl va).length c5) (.bool (c.cl))).setCell ⟨w.heap.size+1+1,0,none⟩ (.slice (some ⟨g1,0,none⟩) d.ths.length c1)).setCell ⟨w.heap.size+1+1,1,none⟩ (.slice (some ⟨g2,0,none⟩) d.chs.length c2)).setCell ⟨w.heap.size+1+1,2,none⟩ (.slice s3 d.tr.length c3)).heap[z]? =w.heap[z]? :=by rw [Below.heap_setCell _ _ _ z (by show z≠w.heap.size+1+1;omega),Below.heap_setCell _ _ _ z (by show z≠w.heap.size+1+1;omega),Below.heap_setCell _ _ _ z (by show z≠w.heap.size+1+1;omega),set3_block n2',Below.heap_setCell _ _ _ z ng];exact FRH.out z hz hn
    unfold set3 at hch
    exact (drewB _ _).trans hch
   have o:=A22.o
   unfold set3 at o
   exact OwnS.drew o
set_option maxHeartbeats 4000000 in
theorem l4Chan_t7b (v1 v2 v3 : Value) (base : Nat) (L1 L2 : List (Rec × Value)) (d : SD) (k : Nat) (t : TD) (c : CD) (r a b n : Nat) (w : World) (hO : OwnS w base v1 v2 v3 L1 L2 d) (hb : base ≤ w.heap.size) (ht : d.ths[k]? = some t) (h4 : t.regs.length = 4) (hc : d.chs[n]? = some c) (hr : r < 4) (ha : a < 4) (hb4 : b < 4) (hcl : c.list.length ≤ 4) (hcn : d.chs.length ≤ 3) (hth : d.ths.length ≤ 4) (va : Int) (hva : t.regs.getD a 0 = va) (hK : sendK c.cap c.list c.cl = 1) :
  Calls Tryz.prog 79 #[.agg #[v1,v2,v3],.int .i64 k,.agg #[.int .i64 7,.int .i64 r,.int .i64 a,.int .i64 b,.int .i64 n]] w fun e w'=>∃ L1' L2',e=.returned (.tuple #[.agg #[v1,v2,v3],.int .i64 (0)])∧OwnS w' base v1 v2 v3 L1' L2' ⟨d.ths.set k ⟨t.pc,(t.regs.set r (bitN false)),t.st⟩,d.chs.set n ⟨c.cap,sendL c.cap c.list c.cl va,c.cl⟩,d.tr⟩∧Below base w w'∧∀ b,b < w.heap.size→¬ HitS v1 v2 v3 L1 L2 b→w'.heap[b]? =w.heap[b]? :=by
 obtain ⟨g1,c1,x,hv1,hx,ex,hg0,hg1,e0,e1,e2,e3⟩:=hO.thread ht
 obtain ⟨gr,cr,hx2,hr0,hr1,er,erf⟩:=hO.regs hx ex h4
 obtain ⟨g2,c2,y,hv2,hy,ey,hc0,hc1,f0,f1,f2,f3⟩:=hO.chanAt hc
 have hyo:OwnN w base y.2 c.list:=by have h0:=hO.c.inn n y hy;rw [ey] at h0;exact h0
 obtain ⟨sc,cc,hy2,hyI⟩:=ownN_ints hyo
 have hcc:c.list.length≤cc:=by
  have h0:=hyo
  rw [hy2] at h0
  exact ownCap h0
 obtain ⟨s3,c3,hv3⟩:=ownSl hO.n
 have hkl:k < d.ths.length:=(List.getElem?_eq_some_iff.1 ht).1
 have hnl:n < d.chs.length:=(List.getElem?_eq_some_iff.1 hc).1
 subst hv1
 subst hv2
 subst hv3
 rw [hx2] at e1
 rw [hy2] at f1
 obtain ⟨W,hW,hF,kW,zW⟩:=frNew w (.slice (some ⟨g1,0,none⟩) d.ths.length c1) (.slice (some ⟨g2,0,none⟩) d.chs.length c2) (.slice s3 d.tr.length c3) 7 r a b n (.int .i64 c.cap) (.slice sc c.list.length cc) (.bool c.cl) 32 85 32 65
 have HW:=(show Hid _ from hW)
 have HK:Hid (sendK c.cap c.list c.cl=1):=hK
 clear hK
 have HZW:Hid (W.heap.size=w.heap.size+4):=zW
 have FR:=(show Hid _ from hF)
 have KW:=(show Hid _ from kW)
 have HO:=(show Hid _ from hO)
 have HT:=(show Hid (d.ths[k]? =some t) from ht)
 have HX:=(show Hid (L1[k]? =some x) from hx)
 have HX2:=(show Hid (x.2=.slice (some ⟨gr,0,none⟩) 4 cr) from hx2)
 have IW:Hid (IntsR W base w.heap.size sc c.list):=hyI.keep (Keep.of_below kW (by omega))
 have ERW:Hid (∀ i,i < 4→W.cell? ⟨gr,i,none⟩=some (.int .i64 (t.regs.getD i 0))):=fun i hi=>(kW.cell (p:=⟨gr,i,none⟩) hr1).trans (er i hi)
 have ERF:Hid (∀ j,W.frozen? ⟨gr,j,none⟩=false):=fun j=>(kW.frozen (p:=⟨gr,j,none⟩) hr1).trans (erf j)
 have fW0:=(kW.cell (p:=⟨g2,n * 3,none⟩) hc1).trans f0
 have fW1:=(kW.cell (p:=⟨g2,n * 3+1,none⟩) hc1).trans f1
 have fW2:=(kW.cell (p:=⟨g2,n * 3+2,none⟩) hc1).trans f2
 have fW3:∀ j,W.frozen? ⟨g2,j,none⟩=false:=fun j=>(kW.frozen (p:=⟨g2,j,none⟩) hc1).trans (f3 j)
 have era:=ERW.out a ha
 rw [hva] at era
 have qa:=hF.c.c0
 have qb:=hF.c.c1
 have qc:=hF.c.c2
 have qx:=hF.x2
 have i1:g1 < w.heap.size+1:=by omega
 have i2:g1 < w.heap.size+1+1:=by omega
 have i3:g2 < w.heap.size+1:=by omega
 have i4:g2 < w.heap.size+1+1:=by omega
 have n1:w.heap.size≠g2:=by omega
 have n2:w.heap.size+1≠g2:=by omega
 have n3:w.heap.size+1+1≠g2:=by omega
 have n4:w.heap.size+1+1+1≠g2:=by omega
 have b0:(0:Int)≤(k:Int):=by omega
 have b2:(k:Int) < (d.ths.length:Int):=by omega
 have b3:(0:Int)≤(n:Int):=by omega
 have b4:(n:Int) < (d.chs.length:Int):=by omega
 have b5:(0:Int)≤(a:Int):=by omega
 have b7:(0:Int)≤(r:Int):=by omega
 have b8:(r:Int) < 4:=by omega
 have b9:(0:Int)≤(b:Int):=by omega
 have b10:(b:Int) < 4:=by omega
 have n5:w.heap.size≠gr:=by omega
 have hne2:gr≠g2:=fun e=>ownType_blk HO.out HX.out HX2.out e
 have hne3:g2≠gr:=fun e=>hne2 e.symm
 have n6:w.heap.size+1≠gr:=by omega
 have n7:w.heap.size+1+1≠gr:=by omega
 have n8:w.heap.size+1+1+1≠gr:=by omega
 have b6:(a:Int) < 4:=by omega
 clear hO ht hx ex hyo hyI hW hF kW er erf hx2
 go_enter Tryz.func79,Tryz.ntmps79
 go_wp2
 rw [HW.out]
 go_region_law (refine stepC 93 #[.agg #[.int .i64 c.cap,.slice sc c.list.length cc,.bool c.cl],.int .i64 va] (by rfl) _ _ (by rfl) (by simp [go_sem]) entSend ?_;refine (specSend_any c.cap sc c.list cc c.cl va W.drew (rowI_of (IW.out.keep (fun _ _ _=>rfl)) (by show _≤W.heap.size;omega)) (by omega)).mono ?_;rintro e w5 ⟨u5,rfl,ho5',hb5',hz5'⟩;rw [HK.out];have hb5:Below W.heap.size W w5:=(Below.drew (Below.refl _ _)).trans hb5';have ho5:OwnN w5 W.heap.size u5 (sendL c.cap c.list c.cl va):=ho5';obtain ⟨s5,c5,rfl⟩:=ho5.sl;have F5:=FR.out.keep (hb5.mono (by omega));have h0:=F5.s.c0;have h1:=F5.s.c1;have h2:=F5.s.c2;have j0:=F5.x0;have j1:=F5.x1;have j2:=F5.x2;have j3:=F5.x3;have j4:=F5.x4;have m0:=F5.r.c0;have m1:=F5.r.c1;have m2:=F5.r.c2;have m3:=F5.r.f;have q0:=F5.c.c0;have q1:=F5.c.c1;have q2:=F5.c.c2;have q3:=F5.c.f;have e0':=(hb5.cell (p:=⟨g2,n * 3,none⟩) (by show g2 < _;omega)).trans fW0;have e1':=(hb5.cell (p:=⟨g2,n * 3+1,none⟩) (by show g2 < _;omega)).trans fW1;have e2':=(hb5.cell (p:=⟨g2,n * 3+2,none⟩) (by show g2 < _;omega)).trans fW2;have e3':∀ j,w5.frozen? ⟨g2,j,none⟩=false:=(fun j=>(hb5.frozen (p:=⟨g2,j,none⟩) (by show g2 < _;omega)).trans (fW3 j));have er':∀ i,i < 4→w5.cell? ⟨gr,i,none⟩=some (.int .i64 (t.regs.getD i 0)):=(fun i hi=>(hb5.cell (p:=⟨gr,i,none⟩) (by show gr < _;omega)).trans (ERW.out i hi));have erf':∀ j,w5.frozen? ⟨gr,j,none⟩=false:=(fun j=>(hb5.frozen (p:=⟨gr,j,none⟩) (by show gr < _;omega)).trans (ERF.out j));have z5:=hb5.size;have F5H:=(show Hid _ from F5);have U5:=(show Hid _ from ho5);have B5:=(show Hid _ from hb5);have err:=er' r (by omega);refine ⟨_,rfl,?_⟩)
 all_goals
  go_wp2
  have A5:OA w5 base w.heap.size (w5.heap.size+1000) (.slice (some ⟨g1,0,none⟩) d.ths.length c1) (.slice (some ⟨g2,0,none⟩) d.chs.length c2) (.slice s3 d.tr.length c3) L1 L2 d:=OA.of HO.out (KW.out.trans (B5.out.mono (by omega)))
  have A6:=((A5.cell (B:=w.heap.size+1+1+1) 0 (.int .i64 c.cap) (by omega) (by omega)).cell (B:=w.heap.size+1+1+1) 1 (.slice s5 (sendL c.cap c.list c.cl va).length c5) (by omega) (by omega)).cell (B:=w.heap.size+1+1+1) 2 (.bool (c.cl)) (by omega) (by omega)
  have F6:=F5H.out.putC (.int .i64 c.cap) (.slice s5 (sendL c.cap c.list c.cl va).length c5) (.bool (c.cl))
  have U6:OwnN (((w5.setCell ⟨w.heap.size+1+1+1,0,none⟩ (.int .i64 c.cap)).setCell ⟨w.heap.size+1+1+1,1,none⟩ (.slice s5 (sendL c.cap c.list c.cl va).length c5)).setCell ⟨w.heap.size+1+1+1,2,none⟩ (.bool (c.cl))) W.heap.size (.slice s5 (sendL c.cap c.list c.cl va).length c5) (sendL c.cap c.list c.cl va):=ownKeep' U5.out (fun k hk=>by have hk2:=(World.ownsRow.lt U5.out _ hk).1;rw [Below.heap_setCell _ _ _ k (by show k≠w.heap.size+1+1+1;omega)];rw [Below.heap_setCell _ _ _ k (by show k≠w.heap.size+1+1+1;omega)];rw [Below.heap_setCell _ _ _ k (by show k≠w.heap.size+1+1+1;omega)])
  have K6:Below base w (((w5.setCell ⟨w.heap.size+1+1+1,0,none⟩ (.int .i64 c.cap)).setCell ⟨w.heap.size+1+1+1,1,none⟩ (.slice s5 (sendL c.cap c.list c.cl va).length c5)).setCell ⟨w.heap.size+1+1+1,2,none⟩ (.bool (c.cl))):=((((KW.out.mono hb).trans (B5.out.mono (by omega))).setCell (p:=⟨w.heap.size+1+1+1,0,none⟩) (by show base≤w.heap.size+1+1+1;omega) _).setCell (p:=⟨w.heap.size+1+1+1,1,none⟩) (by show base≤w.heap.size+1+1+1;omega) _).setCell (p:=⟨w.heap.size+1+1+1,2,none⟩) (by show base≤w.heap.size+1+1+1;omega) _
  have z6:(((w5.setCell ⟨w.heap.size+1+1+1,0,none⟩ (.int .i64 c.cap)).setCell ⟨w.heap.size+1+1+1,1,none⟩ (.slice s5 (sendL c.cap c.list c.cl va).length c5)).setCell ⟨w.heap.size+1+1+1,2,none⟩ (.bool (c.cl))).heap.size=w5.heap.size:=by simp
  have fr6:∀ z,z < w.heap.size→¬ HitS (.slice (some ⟨g1,0,none⟩) d.ths.length c1) (.slice (some ⟨g2,0,none⟩) d.chs.length c2) (.slice s3 d.tr.length c3) L1 L2 z→(((w5.setCell ⟨w.heap.size+1+1+1,0,none⟩ (.int .i64 c.cap)).setCell ⟨w.heap.size+1+1+1,1,none⟩ (.slice s5 (sendL c.cap c.list c.cl va).length c5)).setCell ⟨w.heap.size+1+1+1,2,none⟩ (.bool (c.cl))).heap[z]? =w.heap[z]? :=fun z hz hn=>by have ng:z≠gr:=fun e=>hn (.inl (.inr ⟨k,x,HX.out,by rw [HX2.out,e];rfl⟩));have n2':z≠g2:=fun e=>hn (.inr (.inl (.inl (by rw [e];rfl))));rw [Below.heap_setCell _ _ _ z (by show z≠w.heap.size+1+1+1;omega),Below.heap_setCell _ _ _ z (by show z≠w.heap.size+1+1+1;omega),Below.heap_setCell _ _ _ z (by show z≠w.heap.size+1+1+1;omega)];exact (B5.out.block z (by omega)).trans (KW.out.block z hz)
  have er6:(((w5.setCell ⟨w.heap.size+1+1+1,0,none⟩ (.int .i64 c.cap)).setCell ⟨w.heap.size+1+1+1,1,none⟩ (.slice s5 (sendL c.cap c.list c.cl va).length c5)).setCell ⟨w.heap.size+1+1+1,2,none⟩ (.bool (c.cl))).cell? ⟨gr,r,none⟩=some (.int .i64 (t.regs.getD r 0)):=(setC_blk (by omega)).trans ((setC_blk (by omega)).trans ((setC_blk (by omega)).trans err))
  have ef6:∀ j,(((w5.setCell ⟨w.heap.size+1+1+1,0,none⟩ (.int .i64 c.cap)).setCell ⟨w.heap.size+1+1+1,1,none⟩ (.slice s5 (sendL c.cap c.list c.cl va).length c5)).setCell ⟨w.heap.size+1+1+1,2,none⟩ (.bool (c.cl))).frozen? ⟨gr,j,none⟩=false:=fun j=>by simp only [World.frozen?_setCell];exact erf' j
  have g60:=(show (((w5.setCell ⟨w.heap.size+1+1+1,0,none⟩ (.int .i64 c.cap)).setCell ⟨w.heap.size+1+1+1,1,none⟩ (.slice s5 (sendL c.cap c.list c.cl va).length c5)).setCell ⟨w.heap.size+1+1+1,2,none⟩ (.bool (c.cl))).cell? ⟨g2,n * 3,none⟩=_ from (setC_blk (by omega)).trans ((setC_blk (by omega)).trans ((setC_blk (by omega)).trans e0')))
  have g61:=(show (((w5.setCell ⟨w.heap.size+1+1+1,0,none⟩ (.int .i64 c.cap)).setCell ⟨w.heap.size+1+1+1,1,none⟩ (.slice s5 (sendL c.cap c.list c.cl va).length c5)).setCell ⟨w.heap.size+1+1+1,2,none⟩ (.bool (c.cl))).cell? ⟨g2,n * 3+1,none⟩=_ from (setC_blk (by omega)).trans ((setC_blk (by omega)).trans ((setC_blk (by omega)).trans e1')))
  have g62:=(show (((w5.setCell ⟨w.heap.size+1+1+1,0,none⟩ (.int .i64 c.cap)).setCell ⟨w.heap.size+1+1+1,1,none⟩ (.slice s5 (sendL c.cap c.list c.cl va).length c5)).setCell ⟨w.heap.size+1+1+1,2,none⟩ (.bool (c.cl))).cell? ⟨g2,n * 3+2,none⟩=_ from (setC_blk (by omega)).trans ((setC_blk (by omega)).trans ((setC_blk (by omega)).trans e2')))
  have g63:∀ j,(((w5.setCell ⟨w.heap.size+1+1+1,0,none⟩ (.int .i64 c.cap)).setCell ⟨w.heap.size+1+1+1,1,none⟩ (.slice s5 (sendL c.cap c.list c.cl va).length c5)).setCell ⟨w.heap.size+1+1+1,2,none⟩ (.bool (c.cl))).frozen? ⟨g2,j,none⟩=false:=fun j=>by simp only [World.frozen?_setCell];exact e3' j
  obtain ⟨X6,hX6⟩:∃ X6,(((w5.setCell ⟨w.heap.size+1+1+1,0,none⟩ (.int .i64 c.cap)).setCell ⟨w.heap.size+1+1+1,1,none⟩ (.slice s5 (sendL c.cap c.list c.cl va).length c5)).setCell ⟨w.heap.size+1+1+1,2,none⟩ (.bool (c.cl)))=X6:=⟨_,rfl⟩
  rw [hX6] at A6 F6 U6 K6 z6 fr6 er6 ef6 g60 g61 g62 g63 ⊢
  clear hX6 h0 h1 h2 j0 j1 j2 j3 j4 m0 m1 m2 m3 q0 q1 q2 q3 e0' e1' e2' e3' erf' err
  have h0:=F6.s.c0
  have h1:=F6.s.c1
  have h2:=F6.s.c2
  have j0:=F6.x0
  have j1:=F6.x1
  have j2:=F6.x2
  have j3:=F6.x3
  have j4:=F6.x4
  have m0:=F6.r.c0
  have m1:=F6.r.c1
  have m2:=F6.r.c2
  have m3:=F6.r.f
  have q0:=F6.c.c0
  have q1:=F6.c.c1
  have q2:=F6.c.c2
  have zz6:w.heap.size+4≤X6.heap.size:=F6.z
  have AH:=(show Hid _ from A6)
  have FH:=(show Hid _ from F6)
  have UH:=(show Hid _ from U6)
  have KH:=(show Hid _ from K6)
  have ZH:Hid (X6.heap.size=w5.heap.size):=z6
  have FRH:=(show Hid _ from fr6)
  clear z6 fr6
  clear A6 F6 U6 K6 A5 hva
  go_region_law (refine stepC 78 #[.bool false] (by rfl) _ _ (by rfl) (by simp [go_sem]) entBit ?_;refine (l4Bit_any false _).mono ?_;rintro e w6 ⟨rfl,hw6⟩;rw [hw6];clear hw6 w6;refine ⟨_,rfl,?_⟩)
  all_goals go_wp2
  all_goals
   have zW2:=HZW.out
   obtain ⟨Mz,xz,hxz,hyz,A8⟩:=AH.out.setR HX.out HT.out HX2.out h4 r (bitN false)
   have zX:(X6.setCell ⟨gr,r,none⟩ (.int .i64 (bitN false))).heap.size=w5.heap.size:=by rw [World.size_setCell];exact ZH.out
   have hlt:∀ b,HitS (.slice (some ⟨g1,0,none⟩) d.ths.length c1) (.slice (some ⟨g2,0,none⟩) d.chs.length c2) (.slice s3 d.tr.length c3) Mz L2 b→b < w.heap.size:=fun b hb=>by rcases A8.h b hb with h | h;exact h;(have h1:=(A8.o.hit hb).2;rw [zX] at h1;omega)
   have A20:OA (X6.setCell ⟨gr,r,none⟩ (.int .i64 (bitN false))) base w.heap.size (w.heap.size+4) (.slice (some ⟨g1,0,none⟩) d.ths.length c1) (.slice (some ⟨g2,0,none⟩) d.chs.length c2) (.slice s3 d.tr.length c3) Mz L2 ⟨(d.ths.set k ⟨t.pc,t.regs.set r (bitN false),t.st⟩),d.chs,d.tr⟩:=⟨A8.o,fun b hb=>.inl (hlt b hb)⟩
   have U20:OwnN (X6.setCell ⟨gr,r,none⟩ (.int .i64 (bitN false))) W.heap.size (.slice s5 (sendL c.cap c.list c.cl va).length c5) (sendL c.cap c.list c.cl va):=ownKeep' UH.out (fun k hk=>by have hk2:=(World.ownsRow.lt UH.out _ hk).1;rw [Below.heap_setCell _ _ _ k (by show k≠gr;omega)])
   obtain ⟨N2,A21⟩:=OA.setC (d:=⟨(d.ths.set k ⟨t.pc,t.regs.set r (bitN false),t.st⟩),d.chs,d.tr⟩) A20 (k:=n) hnl ⟨c.cap,sendL c.cap c.list c.cl va,c.cl⟩ (.slice s5 (sendL c.cap c.list c.cl va).length c5) W.heap.size U20 (by omega) (by omega) (fun b hb=>by have:=hlt b hb;omega)
   have A22:=((A21.cell (B:=w.heap.size+1+1) 0 (.slice (some ⟨g1,0,none⟩) d.ths.length c1) (by omega) (by omega)).cell (B:=w.heap.size+1+1) 1 (.slice (some ⟨g2,0,none⟩) d.chs.length c2) (by omega) (by omega)).cell (B:=w.heap.size+1+1) 2 (.slice s3 d.tr.length c3) (by omega) (by omega)
   have R6:BoF (w.heap.size+1+1) (set3 (X6.setCell ⟨gr,r,none⟩ (.int .i64 (bitN false))) g2 (n * 3) (.int .i64 c.cap) (.slice s5 (sendL c.cap c.list c.cl va).length c5) (.bool (c.cl))) (.slice none 0 0) (.slice none 0 0) (.slice none 0 0):=FH.out.r.keep (by rw [set3_block (by omega),Below.heap_setCell _ _ _ _ (by show w.heap.size+1+1≠gr;omega)]) (by rw [set3_size,World.size_setCell];exact Nat.le_refl _)
   have R7:=((R6.set0 (.slice (some ⟨g1,0,none⟩) d.ths.length c1)).set1 (.slice (some ⟨g2,0,none⟩) d.chs.length c2)).set2 (.slice s3 d.tr.length c3)
   refine bodyPost_ret (v:=.tuple #[.agg #[.slice (some ⟨g1,0,none⟩) d.ths.length c1,.slice (some ⟨g2,0,none⟩) d.chs.length c2,.slice s3 d.tr.length c3],.int .i64 (0)]) (by have y0:=R7.c0;have y1:=R7.c1;have y2:=R7.c2;unfold set3 at y0 y1 y2;simp [results,Tryz.results79,go_sem,y0,y1,y2]) rfl ⟨Mz,N2,rfl,?_,Below.drew ((((((((KH.out).setCell (p:=⟨gr,r,none⟩) hr0 _).setCell (p:=⟨g2,n * 3,none⟩) hc0 _).setCell (p:=⟨g2,n * 3+1,none⟩) hc0 _).setCell (p:=⟨g2,n * 3+2,none⟩) hc0 _).setCell (p:=⟨w.heap.size+1+1,0,none⟩) (by show base≤w.heap.size+1+1;omega) _).setCell (p:=⟨w.heap.size+1+1,1,none⟩) (by show base≤w.heap.size+1+1;omega) _).setCell (p:=⟨w.heap.size+1+1,2,none⟩) (by show base≤w.heap.size+1+1;omega) _),fun z hz hn=>?_⟩
   rotate_left
   ·have ng:z≠gr:=fun e=>hn (.inl (.inr ⟨k,x,HX.out,by rw [HX2.out,e];rfl⟩));have n2':z≠g2:=fun e=>hn (.inr (.inl (.inl (by rw [e];rfl))))
    have hch:((((set3 (X6.setCell ⟨gr,r,none⟩ (.int .i64 (bitN false))) g2 (n * 3) (.int .i64 c.cap) (.slice s5 (sendL c.cap c.list c.cl va).length c5) (.bool (c.cl))).setCell ⟨w.heap.size+1+1,0,none⟩ (.slice (some ⟨g1,0,none⟩) d.ths.length c1)).setCell ⟨w.heap.size+1+1,1,none⟩ (.slice (some ⟨g2,0,none⟩) d.chs.length c2)).setCell ⟨w.heap.size+1+1,2,none⟩ (.slice s3 d.tr.length c3)).heap[z]? =w.heap[z]? :=by rw [Below.heap_setCell _ _ _ z (by show z≠w.heap.size+1+1;omega),Below.heap_setCell _ _ _ z (by show z≠w.heap.size+1+1;omega),Below.heap_setCell _ _ _ z (by show z≠w.heap.size+1+1;omega),set3_block n2',Below.heap_setCell _ _ _ z ng];exact FRH.out z hz hn
    unfold set3 at hch
    exact (drewB _ _).trans hch
   have o:=A22.o
   unfold set3 at o
   exact OwnS.drew o
end Go.Proofs.YtknffngbdakblaaGreat
