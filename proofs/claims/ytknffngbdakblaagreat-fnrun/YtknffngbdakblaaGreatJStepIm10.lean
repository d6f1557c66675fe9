/- A turn of a thread that does its place. Conditions: program and source are right, the place is no note too many. -/
import Derived.Test.YtknffngbdakblaaGreatJG08
import Derived.Test.YtknffngbdakblaaGreatJG07
import Derived.Test.YtknffngbdakblaaGreatJG15
import Derived.Test.YtknffngbdakblaaGreatJG14
import Derived.Test.YtknffngbdakblaaGreatJG13
import Derived.Test.YtknffngbdakblaaGreatJStepIm2
import Derived.Test.YtknffngbdakblaaGreatJG12
import Derived.Test.YtknffngbdakblaaGreatJG06
import Derived.Test.YtknffngbdakblaaGreatJG10
import Derived.Test.YtknffngbdakblaaGreatJG09
import Derived.Test.YtknffngbdakblaaGreatJG00
import Derived.Test.YtknffngbdakblaaGreatJG01
import Derived.Test.YtknffngbdakblaaGreatJLeaves
import Derived.Test.YtknffngbdakblaaGreatJG04
import Derived.Test.YtknffngbdakblaaGreatJG03
import Derived.Test.YtknffngbdakblaaGreatJBody
namespace Go.Proofs.YtknffngbdakblaaGreat
set_option linter.unusedSimpArgs false
set_option linter.unusedVariables false
set_option maxRecDepth 100000
open Go.RowKit
theorem Rd.below {w w':World} {b S base:Nat} {v1 v2 v3:Value} {L1 L2:List (Rec×Value)} {d:SD} {who pc nx st:Int} {rg:List Int} (h:Rd w b S base v1 v2 v3 L1 L2 d who pc nx st rg) (k:Below w.heap.size w w'):Rd w' b S base v1 v2 v3 L1 L2 d who pc nx st rg:=
 ⟨h.t.below k h.t.z,h.s.below k h.s.z,h.bs.same (k.block S h.s.z),h.bt.same (k.block b h.t.z),h.o.keep (fun q _ hq=>k.block q hq),h.ne,Nat.le_trans h.hb k.size,h.hS,h.hbb⟩
theorem doM_wt {t:TD} {x:I5} {chs:List CD} {tr:List ND} {k:Nat} (hop:1≤x.o∧x.o≤13) (hch:5≤x.o→x.o≤9→∃ c,chs[x.n.toNat]? =some c∧okC c.cap c.list.length=true) (h:(doM t x chs tr k).code=1):(doM t x chs tr k).chs=chs∧(doM t x chs tr k).tr=tr:=by
 by_cases h5:5≤x.o∧x.o≤9
 ·obtain ⟨c,hc,hok⟩:=hch h5.1 h5.2
  have e1:chs.getD x.n.toNat zc=c:=by rw [List.getD_eq_getElem?_getD,hc];rfl
  have e:doM t x chs tr k=⟨chanH x.o c,t.pc+1,0,chanR x.o t.regs c x.r.toNat x.b.toNat,chs.set x.n.toNat (chanC x.o c (regN t.regs x.a)),tr⟩:=by
   unfold doM
   rw [if_neg (by omega),if_neg (by omega),if_neg (by omega),if_neg (by omega),if_neg (by omega),if_neg (by omega),if_neg (by omega),if_neg (by omega),e1]
  rw [e] at h ⊢
  have q:=(chanC_wait (v:=regN t.regs x.a) hok (by omega) h).1
  refine ⟨?_,rfl⟩
  show chs.set _ _=_
  rw [q]
  exact chan_same hc
 ·exfalso
  have:(doM t x chs tr k).code=0:=by
   unfold doM
   have o:x.o=1∨x.o=2∨x.o=3∨x.o=4∨x.o=10∨x.o=11∨x.o=12∨x.o=13:=by omega
   rcases o with o | o | o | o | o | o | o | o<;>simp [o]
  rw [this] at h
  cases h
/- what a place was done by, cut -/
def CutD (wc:World) (b S base:Nat) (v1 v2 v3:Value) (L1 L2:List (Rec×Value)) (d:SD) (who pc:Int) (o:DR) (s10:Value) (wx:World):Prop:=∃ X,Below wc.heap.size wc X∧DoP X b S base v1 v2 v3 L1 L2 d who pc o (.returned s10) wx
theorem turn_wait {w X w':World} {b S base n4 c4:Nat} {s4:Option Addr} {v1 v2 v3:Value} {L1 L2 L2':List (Rec×Value)} {d:SD} {who pc nx st:Int} {rg:List Int} {w2:World} (kX:Below w.heap.size w X) (hbw:w.heap.size≤b) (hb:base≤w.heap.size) (q:DoQ X b S base v1 v2 v3 L1 L2 d who pc nx st rg d.chs d.tr s4 n4 c4 L2' w') (k2:Below w'.heap.size w' w2):TurnP w S base v1 v2 v3 L1 L2 4 d (.returned (.int .i64 4)) w2:=by
 have r2:=q.r.below k2
 have z:=kX.size
 have z2:=q.b.size
 exact ⟨rfl,s4,n4,c4,L1,L2',r2.o,r2.s,r2.bs,fun x hx=>(q.h x hx).imp id (fun h=>by omega),fun x h1 h2 h3=>(k2.block x (by omega)).trans ((q.f x (by omega) (by omega) h3 h2).trans (kX.block x h1)),(kX.mono hb).trans (q.b.trans (k2.mono (by omega)))⟩
theorem turn_set {w X w' w2:World} {b S base n4 c4 g1 c1 k:Nat} {s4:Option Addr} {v2 v3:Value} {L1 L2 L2' M:List (Rec×Value)} {d:SD} {chs:List CD} {tr:List ND} {who pc nx st:Int} {rg:List Int} {T:TD} (kX:Below w.heap.size w X) (hbw:w.heap.size≤b) (hb:base≤w.heap.size) (q:DoQ X b S base (.slice (some ⟨g1,0,none⟩) d.ths.length c1) v2 v3 L1 L2 d who pc nx st rg chs tr s4 n4 c4 L2' w') (s:SetQ w' w2 S base g1 c1 n4 c4 k s4 v2 L1 L2' M ⟨d.ths,chs,tr⟩ T):TurnP w S base (.slice (some ⟨g1,0,none⟩) d.ths.length c1) v2 v3 L1 L2 0 ⟨d.ths.set k T,chs,tr⟩ (.returned (.int .i64 0)) w2:=by
 have z:=kX.size
 have z2:=q.b.size
 refine ⟨rfl,s4,n4,c4,M,L2',s.o,s.s,s.bs,fun x hx=>?_,fun x h1 h2 h3=>?_,(kX.mono hb).trans (q.b.trans s.b)⟩
 ·refine (q.h x ?_).imp id (fun h=>by omega)
  rcases hx with hx | hx
  ·exact .inl (s.h x hx)
  ·exact .inr hx
 ·refine (s.f x (by omega) (fun hx=>?_)).trans ((q.f x (by omega) (by omega) h3 h2).trans (kX.block x h1))
  rcases q.h x hx with h | h
  ·exact h3 h
  ·omega
theorem doM_stepI (b : Nat) (pc : Int) (rg : List Int) (o r a bb n : Int) (chs : List CD) (tr : List ND) (k : Nat) (h0 : 0 ≤ pc) (h1 : pc < b) (hop : 1 ≤ o ∧ o ≤ 13) (hr : 0 ≤ r) (ha : 0 ≤ a) (hb : 0 ≤ bb) (hch : 5 ≤ o → o ≤ 9 → 0 ≤ n ∧ ∃ c, chs[n.toNat]? = some c ∧ okC c.cap c.list.length = true) (hnr : ¬ (o = 10 ∧ tr.length = 4000)) :
  stepO b ⟨pc,rg,0⟩ ⟨o,r,a,bb,n⟩ chs tr k=if (doM ⟨pc,rg,0⟩ ⟨o,r,a,bb,n⟩ chs tr k).code=1 then ⟨⟨pc,rg,0⟩,chs,tr,4⟩ else ⟨settleT ⟨pc,rg,0⟩ b (doM ⟨pc,rg,0⟩ ⟨o,r,a,bb,n⟩ chs tr k),(doM ⟨pc,rg,0⟩ ⟨o,r,a,bb,n⟩ chs tr k).chs,(doM ⟨pc,rg,0⟩ ⟨o,r,a,bb,n⟩ chs tr k).tr,0⟩:=by
 obtain ⟨r',rfl⟩:∃ r':Nat,r=r':=⟨r.toNat,by omega⟩
 obtain ⟨a',rfl⟩:∃ r':Nat,a=r':=⟨a.toNat,by omega⟩
 obtain ⟨b',rfl⟩:∃ r':Nat,bb=r':=⟨bb.toNat,by omega⟩
 exact doM_step b pc rg o r' a' b' n.toNat n chs tr k h0 h1 hop (fun h5 h9=>by have:=(hch h5 h9).1;omega) (fun h5 h9=>(hch h5 h9).2) hnr
set_option maxHeartbeats 8000000 in
theorem turn_run (p1 p2 : Option Addr) (a1 a2 lo hi base S : Nat) (p : PD) (v1 v2 v3 : Value) (L1 L2 : List (Rec × Value)) (d : SD) (k : Nat) (t : TD) (w : World) (hP : ProgR w lo hi p1 p2 p) (hB : hi ≤ base) (hO : OwnS w base v1 v2 v3 L1 L2 d) (hS : BoF S w v1 v2 v3) (hbs : BxS w S) (hb : base ≤ w.heap.size) (hR : Right p d) (hSb : base ≤ S) (ht : d.ths[k]? = some t) (hst : t.st = 0) (hf : ¬ ((insOf p d k).o = 10 ∧ d.tr.length = 4000)) :
  Calls Tryz.prog 29 #[.agg #[.slice p1 p.caps.length a1,.slice p2 p.bods.length a2],.pointer (some ⟨S,0,none⟩),.int .i64 k] w fun e w'=>TurnP w S base v1 v2 v3 L1 L2 (outOf p d k).code (if (outOf p d k).code=0 then doneS d k (outOf p d k) else d) e w':=by
 obtain ⟨KK,hKK⟩:∃ K:Int,(outOf p d k).code=K:=⟨_,rfl⟩
 obtain ⟨DD,hDD⟩:∃ D:SD,(if (outOf p d k).code=0 then doneS d k (outOf p d k) else d)=D:=⟨_,rfl⟩
 rw [hDD,hKK]
 have HKK:=hidW hKK
 have HDD:=hidW hDD
 clear hKK hDD
 obtain ⟨q,g1,c1,gr,cr,gb,ob,gi,oi,cb,nb,s2,s3,c2,c3,y,O⟩:=hO.open hP hB hb hR ht
 have HOU:=hidW O.ou
 have hbl:=hR.bd k O.kb
 have hpb:=hR.pb
 have HNL:=hidW hR.nl
 have HCH:=hidW hR.cl
 have HTL:=hidW hR.tl
 have HR:=hidW hR
 obtain ⟨x,hx⟩:∃ x,insOf p d k=x:=⟨_,rfl⟩
 rw [hx] at O HOU
 have HIX:=hidW hx
 clear hx
 obtain ⟨e1,e2,e3,ep,hy,y1,y2,hq,nq,kl,kb,hbn,t0,t1,t2,b0,⟨x0,x1,x2,x3,x4⟩,rr,f1,fr,z1,zr,zb,zi,i1,ir,ib,ii,n1,hok,-,h4⟩:=O
 subst e1 e2 e3 ep
 rw [hbn] at hbl
 have HBN:=hidW hbn
 unfold insX Plain.insB at hok
 rw [decide_eq_true_eq] at hok
 have HOK:=hidW hok
 obtain ⟨o,r,a,bb,n⟩:=x
 simp only at hok x0 x1 x2 x3 x4 HOU HOK
 obtain ⟨pc,rg,st⟩:=t
 simp only at hq h4 rr t0 t2
 subst hq
 have i0:(0:Int)≤(k:Int):=by omega
 have j1:(k:Int) < (d.ths.length:Int):=by omega
 have j2:(k:Int) < (p.bods.length:Int):=by omega
 have j3:(0:Int)≤(q:Int):=by omega
 have j4:(q:Int) < (nb:Int):=by omega
 have w1:IntKind.i64.wrap ((q:Int)+1)=(q:Int)+1:=Go.IntWalk.i64_in _ (by omega)
 have ONE:=hidW (show Plain.oneB (k:Int) d.ths.length=true from by unfold Plain.oneB;simp;omega)
 obtain ⟨W,hW,bx,kW,zW⟩:=Bo2.new w (.slice p1 p.caps.length a1) (.slice (some ⟨gb,ob,none⟩) p.bods.length a2) 27
 have HWW:=hidW hW
 have KW:=hidW kW
 have HO:=hidW hO
 have HP:=hidW hP
 have HS:=hidW hS
 have HBS:=hidW hbs
 have HBX:=hidW bx
 have HT:=hidW ht
 have HY:=hidW hy
 have HY1:=hidW y1
 have HY2:=hidW y2
 have H4:=hidW h4
 have hzS:=hS.z
 have m1:=bx.c1
 have wz:w.heap.size < W.heap.size:=by omega
 have C:∀ g j,g < w.heap.size→W.cell? ⟨g,j,none⟩=w.cell? ⟨g,j,none⟩:=fun g j hg=>kW.cell (p:=⟨g,j,none⟩) hg
 have v0:=(C S 0 hzS).trans hS.c0
 have v2':=(C S 2 hzS).trans hS.c2
 have t0':=(C g1 _ z1).trans t0
 have t1':=(C g1 _ z1).trans t1
 have t2':=(C g1 _ z1).trans t2
 have b0':=(C gb _ zb).trans b0
 have x0':=(C gi _ zi).trans x0
 have x1':=(C gi _ zi).trans x1
 have x2':=(C gi _ zi).trans x2
 have x3':=(C gi _ zi).trans x3
 have x4':=(C gi _ zi).trans x4
 have zS:S < W.heap.size:=by omega
 have zg1:g1 < W.heap.size:=by omega
 have zgb:gb < W.heap.size:=by omega
 have zgi:gi < W.heap.size:=by omega
 clear hW kW hO hP hS hbs bx ht hy y1 y2 hok hR hbn t0 t1 t2 b0 x0 x1 x2 x3 x4 C zW h4
 have hne:=extP_ne W (fun _=>False)
 have u0:=ExtP.fit (E:=fun _=>False) m1 wz (fun h=>h)
 have u1:=ExtP.fit (E:=fun _=>False) b0' zgb (fun h=>h)
 have u2:=ExtP.fit (E:=fun _=>False) t0' zg1 (fun h=>h)
 have u3:=ExtP.fit (E:=fun _=>False) x0' zgi (fun h=>h)
 have u4:=ExtP.fit (E:=fun _=>False) x1' zgi (fun h=>h)
 have u5:=ExtP.fit (E:=fun _=>False) x2' zgi (fun h=>h)
 have u6:=ExtP.fit (E:=fun _=>False) x3' zgi (fun h=>h)
 have u7:=ExtP.fit (E:=fun _=>False) x4' zgi (fun h=>h)
 go_enter Tryz.func29,Tryz.ntmps29
 go_upto_region 1 with fail
 rw [HWW.out]
 go_wp2_with fail
 refine (isOneOf_any _ _ _).mono ?_
 rintro e w9 ⟨rfl,hw9⟩
 rw [hw9,ONE.out]
 clear hw9 w9
 go_upto_region 4 with fail
 refine regionMix W (CP W (fun _=>False)) 11 12 (by kernel_rfl) (by kernel_rfl) (fun _ _ d _ _ h=>by cases d<;>exact h) (CP.drew _ _) ?_
 unfold CP
 dsimp only [List.take,List.drop]
 repeat (go_big_quiet_step (fail))
 refine wpQuiet_nil ?_
 clear hne u0 u1 u2 u3 u4 u5 u6 u7
 unfold wpListC
 go_wp2
 refine And.intro (fun _ hc=>CP.below hc ((Below.refl _ _).alloc (Nat.le_refl _) _)) ?_
 refine listC_late _ _ _ _ (by decide) ?_
 obtain ⟨V,hV,hXB,kV,zV⟩:=Xb.new W.drew (.int .i64 o) (.int .i64 r) (.int .i64 a) (.int .i64 bb) (.int .i64 n) 85
 have kV':Below W.heap.size W V:=(Below.drew (Below.refl _ _)).trans kV
 have HVV:=hidW hV
 have KV:=hidW (KW.out.trans (kV'.mono (by omega)))
 have HXB:=hidW (show Xb V W.heap.size (.int .i64 o) (.int .i64 r) (.int .i64 a) (.int .i64 bb) (.int .i64 n) from hXB)
 have hf':¬ (o=10∧d.tr.length=4000):=by have:=HIX.out;rw [this] at hf;exact hf
 subst hst
 have HVD:=hidW (show (W.alloc (.cells #[.int .i64 o,.int .i64 r,.int .i64 a,.int .i64 bb,.int .i64 n] 85)).drew=V from hV)
 have HF:=hidW hf'
 have RR:=hidW (show ∀ i,i < 4→w.cell? ⟨gr,i,none⟩=some (.int .i64 (rg.getD i 0)) from rr)
 have zWV:W.heap.size < V.heap.size:=zV
 clear hf zV
 have SEL:Hid (∀ X,Below V.heap.size V X→X.cell? ⟨g1,k * 3,none⟩=some (.int .i64 q)∧X.cell? ⟨g1,k * 3+1,none⟩=some (.slice (some ⟨gr,0,none⟩) 4 cr)∧X.cell? ⟨W.heap.size,0,none⟩=some (.int .i64 o)∧X.cell? ⟨W.heap.size,1,none⟩=some (.int .i64 r)∧X.cell? ⟨W.heap.size,2,none⟩=some (.int .i64 a)∧X.cell? ⟨W.heap.size,3,none⟩=some (.int .i64 bb)∧X.cell? ⟨W.heap.size,4,none⟩=some (.int .i64 n)):=fun X hX=>by
  have kX:Below w.heap.size w X:=KV.out.trans (hX.mono (by omega))
  have x:=HXB.out.below hX zWV
  have q:∀ g j,g < W.heap.size→X.cell? ⟨g,j,none⟩=W.cell? ⟨g,j,none⟩:=fun g j hg=>(kV'.trans (hX.mono (by omega))).cell (p:=⟨g,j,none⟩) hg
  exact ⟨(q _ _ zg1).trans t0',(q _ _ zg1).trans t1',x.c0,x.c1,x.c2,x.c3,x.c4⟩
 have CC:Hid (∀ (X0:World) (pB:Option Nat),Below V.heap.size V X0→BoxT9 X0 pB→Calls Tryz.prog 50 #[.slice (some ⟨gr,0,none⟩) 4 cr] X0 fun e w'=>e=.returned (.agg #[.int .i64 (rg.getD 0 0),.int .i64 (rg.getD 1 0),.int .i64 (rg.getD 2 0),.int .i64 (rg.getD 3 0)])∧Below V.heap.size V w'∧Hid (BoxT9 w' pB)∧w'.cell? ⟨g1,k * 3,none⟩=some (.int .i64 q)∧w'.cell? ⟨g1,k * 3+1,none⟩=some (.slice (some ⟨gr,0,none⟩) 4 cr)∧w'.cell? ⟨W.heap.size,0,none⟩=some (.int .i64 o)∧w'.cell? ⟨W.heap.size,1,none⟩=some (.int .i64 r)∧w'.cell? ⟨W.heap.size,2,none⟩=some (.int .i64 a)∧w'.cell? ⟨W.heap.size,3,none⟩=some (.int .i64 bb)∧w'.cell? ⟨W.heap.size,4,none⟩=some (.int .i64 n)):=fun X0 pB hX hb=>(regsOf_any (some ⟨gr,0,none⟩) cr 0 X0.heap.size rg X0 (.inr ⟨gr,0,rfl,Nat.zero_le _,by have:=hX.size;omega,fun i hi=>by rw [Nat.zero_add];exact ((KV.out.trans (hX.mono (by omega))).cell (p:=⟨gr,i,none⟩) zr).trans (RR.out i (by have:=H4.out;omega))⟩) (Nat.le_refl _) H4.out).mono fun e w' hq=>by
  obtain ⟨e1,k1⟩:=hq
  have kk:Below V.heap.size V w':=hX.trans (k1.mono hX.size)
  exact ⟨e1,kk,hb.keep k1,SEL.out _ kk⟩
 obtain ⟨a0,a1',a2',a3,hrg⟩:∃ a b c d,rg=[a,b,c,d]:=by
  have:=H4.out
  match rg,this with
  | [a,b,c,d],_=>exact ⟨a,b,c,d,rfl⟩
 subst hrg
 simp only [List.getD_cons_zero,List.getD_cons_succ] at CC
 have kD:Below V.heap.size V V.drew:=Below.drew (Below.refl _ _)
 have hdr:∀ X:World,X.drew.heap.size=X.heap.size:=fun _=>rfl
 obtain ⟨y0,y1,y2,y3,y4,y5,y6⟩:=SEL.out V (Below.refl _ _)
 have zS':S < V.heap.size:=by omega
 have zg1':g1 < V.heap.size:=by omega
 have v22:V.cell? ⟨S,2,none⟩=some (.slice s3 d.tr.length c3):=(kV'.cell (p:=⟨S,2,none⟩) zS).trans v2'
 have v20:V.cell? ⟨S,0,none⟩=some (.slice (some ⟨g1,0,none⟩) d.ths.length c1):=(kV'.cell (p:=⟨S,0,none⟩) zS).trans v0
 have v12:V.cell? ⟨g1,k * 3+2,none⟩=some (.int .i64 0):=(kV'.cell (p:=⟨g1,k * 3+2,none⟩) zg1).trans t2'
 have KV2:=hidW kV'
 clear kV kV' hXB hV rr
 have HOP:Hid (1≤o∧o≤13):=by have:=HOK.out;exact ⟨by omega,by omega⟩
 have BR:Hid ((0≤r∧r≤3)∧(0≤a∧a≤3)∧(0≤bb∧bb≤3)):=by have:=HOK.out;exact ⟨⟨by omega,by omega⟩,⟨by omega,by omega⟩,⟨by omega,by omega⟩⟩
 have HCW:Hid (5≤o→o≤9→0≤n∧∃ c,d.chs[n.toNat]? =some c∧okC c.cap c.list.length=true):=fun h5 h9=>by
  have hx:0≤n∧n < (p.caps.length:Int):=by have:=HOK.out;omega
  have hl:n.toNat < d.chs.length:=by have:=HCH.out;omega
  exact ⟨hx.1,_,List.getElem?_eq_getElem hl,(HR.out.ch _ _ (List.getElem?_eq_getElem hl)).1⟩
 have DSq:Hid (outOf p d k=if (doM ⟨q,[a0,a1',a2',a3],0⟩ ⟨o,r,a,bb,n⟩ d.chs d.tr k).code=1 then ⟨⟨q,[a0,a1',a2',a3],0⟩,d.chs,d.tr,4⟩ else ⟨settleT ⟨q,[a0,a1',a2',a3],0⟩ nb (doM ⟨q,[a0,a1',a2',a3],0⟩ ⟨o,r,a,bb,n⟩ d.chs d.tr k),(doM ⟨q,[a0,a1',a2',a3],0⟩ ⟨o,r,a,bb,n⟩ d.chs d.tr k).chs,(doM ⟨q,[a0,a1',a2',a3],0⟩ ⟨o,r,a,bb,n⟩ d.chs d.tr k).tr,0⟩):=HOU.out.trans (doM_stepI nb q _ o r a bb n d.chs d.tr k j3 j4 HOP.out BR.out.1.1 BR.out.2.1.1 BR.out.2.2.1 HCW.out HF.out)
 have K1:Hid ((doM ⟨q,[a0,a1',a2',a3],0⟩ ⟨o,r,a,bb,n⟩ d.chs d.tr k).code=1→KK=4∧DD=d∧(doM ⟨q,[a0,a1',a2',a3],0⟩ ⟨o,r,a,bb,n⟩ d.chs d.tr k).chs=d.chs∧(doM ⟨q,[a0,a1',a2',a3],0⟩ ⟨o,r,a,bb,n⟩ d.chs d.tr k).tr=d.tr):=fun h=>by
  have e:=DSq.out
  rw [if_pos h] at e
  have e1:=HKK.out
  have e2:=HDD.out
  rw [e] at e1 e2
  rw [if_neg (show ¬ (4:Int)=0 by decide)] at e2
  exact ⟨e1.symm,e2.symm,doM_wt HOP.out (fun h5 h9=>(HCW.out h5 h9).2) h⟩
 have K0:Hid (¬ (doM ⟨q,[a0,a1',a2',a3],0⟩ ⟨o,r,a,bb,n⟩ d.chs d.tr k).code=1→KK=0∧DD=⟨d.ths.set k (settleT ⟨q,[a0,a1',a2',a3],0⟩ nb (doM ⟨q,[a0,a1',a2',a3],0⟩ ⟨o,r,a,bb,n⟩ d.chs d.tr k)),(doM ⟨q,[a0,a1',a2',a3],0⟩ ⟨o,r,a,bb,n⟩ d.chs d.tr k).chs,(doM ⟨q,[a0,a1',a2',a3],0⟩ ⟨o,r,a,bb,n⟩ d.chs d.tr k).tr⟩):=fun h=>by
  have e:=DSq.out
  rw [if_neg h] at e
  have e1:=HKK.out
  have e2:=HDD.out
  rw [e] at e1 e2
  rw [if_pos rfl] at e2
  exact ⟨e1.symm,e2.symm⟩
 clear DSq HCW HDD HKK HOU
 by_cases h10:o=10
 ·subst h10
  have zv:¬ (4000:Int)≤(d.tr.length:Int):=fun h=>hf' ⟨rfl,by have:=HNL.out;omega⟩
  clear hf'
  go_upto_region 7 with fail
  rw [HVD.out]
  go_cut [9] (fun s9 wx=>CutT V S k q (q+1) [a0,a1',a2',a3] s9 wx)
  case first=>
   go_region_held3 (fun w'=>w'.cell? ⟨g1,k * 3,none⟩=some (.int .i64 q)∧w'.cell? ⟨g1,k * 3+1,none⟩=some (.slice (some ⟨gr,0,none⟩) 4 cr)∧w'.cell? ⟨W.heap.size,0,none⟩=some (.int .i64 10)∧w'.cell? ⟨W.heap.size,1,none⟩=some (.int .i64 r)∧w'.cell? ⟨W.heap.size,2,none⟩=some (.int .i64 a)∧w'.cell? ⟨W.heap.size,3,none⟩=some (.int .i64 bb)∧w'.cell? ⟨W.heap.size,4,none⟩=some (.int .i64 n)) (first | exact SEL.out _ (by repeat' (first | with_reducible exact kD | with_reducible exact kC | with_reducible exact Below.refl _ _ | with_reducible refine Below.drew ?_ | with_reducible refine Below.alloc ?_ (by first | omega | exact Nat.le_refl _ | (simp [hdr];done) | (simp [hdr];omega)) _ | with_reducible refine Below.setCell ?_ (by first | omega | exact Nat.le_refl _ | (simp [hdr];done) | (simp [hdr];omega)) _)) | go_keep) (first | (go_at_call 50;with_reducible refine (CC.out _ _ (by repeat' (first | with_reducible exact kD | with_reducible exact kC | with_reducible exact Below.refl _ _ | with_reducible refine Below.drew ?_ | with_reducible refine Below.alloc ?_ (by first | omega | exact Nat.le_refl _ | (simp [hdr];done) | (simp [hdr];omega)) _ | with_reducible refine Below.setCell ?_ (by first | omega | exact Nat.le_refl _ | (simp [hdr];done) | (simp [hdr];omega)) _)) (by first | with_reducible exact boxTD (boxT0 _) | with_reducible exact boxT0 _ | with_reducible exact boxTN _)).mono ?_;rintro e wC ⟨rfl,kC,HBC,yc0,yc1,yc2,yc3,yc4,yc5,yc6⟩;have zC:=kC.size;(try (have b9:=box9 (boxTS HBC.out);obtain ⟨b0',bj,bf',bz⟩:=b9;have bj1:=bj 1 (by decide) (by decide);have bj2:=bj 2 (by decide) (by decide);have bj3:=bj 3 (by decide) (by decide);have bj4:=bj 4 (by decide) (by decide);have bj5:=bj 5 (by decide) (by decide);have bj6:=bj 6 (by decide) (by decide);have bj7:=bj 7 (by decide) (by decide);have bj8:=bj 8 (by decide) (by decide);clear bj))) | fail)
   all_goals
    go_wp2_with fail
    go_meet
    first
     | with_reducible exact cutT_new kC
     | with_reducible exact cutT_set (boxTS HBC.out) (by omega) kC
  case rest=>
   obtain ⟨bo,rfl,hbo,hT,hU,hk⟩:=hcut
   have HK:=hidW (KV.out.trans (hk.mono (by omega)))
   have RD:Hid (Rd wc bo S base (.slice (some ⟨g1,0,none⟩) d.ths.length c1) (.slice s2 d.chs.length c2) (.slice s3 d.tr.length c3) L1 L2 d k q (q+1) 0 [a0,a1',a2',a3]):=⟨hT,HS.out.below HK.out hzS,HBS.out.same (HK.out.block S hzS),hU,HO.out.keep (fun x _ hx=>HK.out.block x hx),by omega,by have:=HK.out.size;omega,hSb,by omega⟩
   clear y0 y1 y2 y3 y4 y5 y6 CC kD v22 v20 v12
   obtain ⟨y0,y1,y2,y3,y4,y5,y6⟩:=SEL.out wc hk
   have zk:=hk.size
   have hbw:w.heap.size≤bo:=by omega
   have zx:W.heap.size < wc.heap.size:=by omega
   have HK7:=hidW (KV2.out.trans (hk.mono (by omega)))
   clear hT hU hk
   obtain ⟨w7,hw7⟩:∃ w7,w7=wc:=⟨_,rfl⟩
   subst hw7
   go_upto_region 8 with fail
   go_cut [10] (fun s10 wx=>CutD w7 bo S base (.slice (some ⟨g1,0,none⟩) d.ths.length c1) (.slice s2 d.chs.length c2) (.slice s3 d.tr.length c3) L1 L2 d k q (doM ⟨q,[a0,a1',a2',a3],0⟩ ⟨10,r,a,bb,n⟩ d.chs d.tr k) s10 wx)
   case first=>
    ·skip
     have hne:=ext_ne w7
     have u0:=Ext.fit y2 zx
     have u1:=Ext.fit y3 zx
     have u2:=Ext.fit y4 zx
     have u3:=Ext.fit y5 zx
     have u4:=Ext.fit y6 zx
     have DX:Hid (∀ X,Below w7.heap.size w7 X→Calls Tryz.prog 74 #[.pointer (some ⟨bo,0,none⟩),.agg #[.int .i64 10,.int .i64 r,.int .i64 a,.int .i64 bb,.int .i64 n]] X fun e w'=>DoP X bo S base (.slice (some ⟨g1,0,none⟩) d.ths.length c1) (.slice s2 d.chs.length c2) (.slice s3 d.tr.length c3) L1 L2 d k q (doM ⟨q,[a0,a1',a2',a3],0⟩ ⟨10,r,a,bb,n⟩ d.chs d.tr k) e w'):=fun X hX=>do10 0 r a bb n bo S base _ _ _ _ _ L1 L2 d k q _ X (RD.out.below hX) BR.out.1 BR.out.2.1 BR.out.2.2 HNL.out
     go_wp2_with fail
     refine regionSuf w7 5 (by decide) (by kernel_rfl) (by kernel_rfl) (by kernel_rfl) (by kernel_rfl) ?_
     dsimp only [List.take,List.drop]
     repeat (go_big_quiet_step ((rename_i X;go_at_call 51;refine Calls.mono (doings_any _) ?_;rintro e w3 ⟨rfl,hb3⟩;exact ⟨rfl,X.on hb3⟩)))
     refine Go.BigFrame.wpQuiet_want (by rfl) (fun K hK=>⟨.func (.func 74) #[] #[],fun w' _=>?_,hK _ ?_⟩)
     ·simp [Oper.quietAt,execOp,Instr.index,Oper.quietUpon,go_sem]
     simp only [Act.put,List.setIfInBounds_toArray,List.set_cons_zero,List.set_cons_succ]
     repeat (go_big_quiet_step (fail))
     refine wpQuiet_nil ?_
     clear hne u0 u1 u2 u3 u4
     rintro w3 ⟨X3,rfl⟩
     obtain ⟨V2,hX3⟩:∃ V2,X3.w=V2:=⟨_,rfl⟩
     have hb3:=X3.b
     rw [hX3] at hb3 ⊢
     have HB3:=hidW hb3
     go_wp2_with fail
     refine (DX.out _ hb3).mono ?_
     intro e w9 h9
     obtain ⟨he,h9⟩:=h9
     subst he
     have H9:=hidW h9
     clear h9
     go_wp2_with fail
     go_meet
     exact ⟨_,HB3.out,rfl,H9.out⟩
   case rest=>
   obtain ⟨X,kX,hs,s4,n4,c4,L2',q9⟩:=hcut
   injection hs with hs
   subst hs
   have HQ9:=hidW q9
   have zz:=kX.size
   have KX:=hidW (HK.out.trans (kX.mono (by have:=HK.out.size;omega)))
   have KWX:=hidW (HK7.out.trans (kX.mono (by omega)))
   clear q9 kX
   generalize hDM:doM ⟨q,[a0,a1',a2',a3],0⟩ ⟨10,r,a,bb,n⟩ d.chs d.tr k=o9 at *
   obtain ⟨cd,hcd⟩:∃ cd,o9.code=cd:=⟨_,rfl⟩
   rw [hcd]
   by_cases h1:cd=1
   ·subst h1
    obtain ⟨k4,kd,kc,kt⟩:=K1.out hcd
    have HKC:=hidW kc
    have HKT:=hidW kt
    clear kc kt
    subst k4 kd
    go_wp2
    go_ret
    have q9:=HQ9.out
    rw [HKC.out,HKT.out] at q9
    exact turn_wait KX.out hbw hb q9 (Below.refl _ _)
   ·have h1':(cd==1)=false:=by simp [h1]
    have q9:=HQ9.out
    have zX:w.heap.size < X.heap.size:=by have:=KWX.out.size;omega
    have zb1:w.heap.size≠bo:=by omega
    have zb2:w.heap.size≠S:=by omega
    have pf:wc.heap[w.heap.size]? =X.heap[w.heap.size]? :=q9.f w.heap.size zX zb1 (fun h=>by have:=(HO.out.hit h).2;omega) zb2
    have pm:wc.cell? ⟨w.heap.size,1,none⟩=some (.slice (some ⟨gb,ob,none⟩) p.bods.length a2):=(World.cell?_of_block (a:=⟨w.heap.size,1,none⟩) pf).trans ((KWX.out.cell (p:=⟨w.heap.size,1,none⟩) wz).trans m1)
    have pb':wc.cell? ⟨gb,ob+k,none⟩=some (.slice (some ⟨gi,oi,none⟩) nb cb):=(q9.b.cell (p:=⟨gb,_,none⟩) ib).trans ((KWX.out.cell (p:=⟨gb,_,none⟩) zgb).trans b0')
    have zc1:w.heap.size < wc.heap.size:=by have:=q9.b.size;have:=KX.out.size;have:=KWX.out.size;omega
    have zc2:gb < wc.heap.size:=by omega
    obtain ⟨k0,kd⟩:=K0.out (by rw [hcd];exact h1)
    have HKD:=hidW kd
    have HK0:=hidW k0
    clear q9 kd k0
    go_wp2_with fail
    refine (settle_any bo S base n4 c4 g1 c1 k nb s4 _ L1 L2' ⟨d.ths,o9.chs,o9.tr⟩ k q o9.nx o9.st o9.rg ⟨q,[a0,a1',a2',a3],0⟩ cd _ HQ9.out.r HT.out H4.out (by omega)).mono ?_
    rintro e w8 ⟨rfl,M,sq⟩
    rw [← hcd] at sq
    have SQ:=hidW sq
    clear sq
    go_wp2_with fail
    go_ret
    rw [HK0.out,HKD.out]
    exact turn_set KX.out hbw hb HQ9.out SQ.out
 ·have zv:(o==10)=false:=by simp [h10]
  clear hf'
  go_upto_region 7 with fail
  rw [HVD.out]
  go_cut [9] (fun s9 wx=>CutT V S k q (q+1) [a0,a1',a2',a3] s9 wx)
  case first=>
   go_region_held3 (fun w'=>w'.cell? ⟨g1,k * 3,none⟩=some (.int .i64 q)∧w'.cell? ⟨g1,k * 3+1,none⟩=some (.slice (some ⟨gr,0,none⟩) 4 cr)∧w'.cell? ⟨W.heap.size,0,none⟩=some (.int .i64 o)∧w'.cell? ⟨W.heap.size,1,none⟩=some (.int .i64 r)∧w'.cell? ⟨W.heap.size,2,none⟩=some (.int .i64 a)∧w'.cell? ⟨W.heap.size,3,none⟩=some (.int .i64 bb)∧w'.cell? ⟨W.heap.size,4,none⟩=some (.int .i64 n)) (first | exact SEL.out _ (by repeat' (first | with_reducible exact kD | with_reducible exact kC | with_reducible exact Below.refl _ _ | with_reducible refine Below.drew ?_ | with_reducible refine Below.alloc ?_ (by first | omega | exact Nat.le_refl _ | (simp [hdr];done) | (simp [hdr];omega)) _ | with_reducible refine Below.setCell ?_ (by first | omega | exact Nat.le_refl _ | (simp [hdr];done) | (simp [hdr];omega)) _)) | go_keep) (first | (go_at_call 50;with_reducible refine (CC.out _ _ (by repeat' (first | with_reducible exact kD | with_reducible exact kC | with_reducible exact Below.refl _ _ | with_reducible refine Below.drew ?_ | with_reducible refine Below.alloc ?_ (by first | omega | exact Nat.le_refl _ | (simp [hdr];done) | (simp [hdr];omega)) _ | with_reducible refine Below.setCell ?_ (by first | omega | exact Nat.le_refl _ | (simp [hdr];done) | (simp [hdr];omega)) _)) (by first | with_reducible exact boxTD (boxT0 _) | with_reducible exact boxT0 _ | with_reducible exact boxTN _)).mono ?_;rintro e wC ⟨rfl,kC,HBC,yc0,yc1,yc2,yc3,yc4,yc5,yc6⟩;have zC:=kC.size;(try (have b9:=box9 (boxTS HBC.out);obtain ⟨b0',bj,bf',bz⟩:=b9;have bj1:=bj 1 (by decide) (by decide);have bj2:=bj 2 (by decide) (by decide);have bj3:=bj 3 (by decide) (by decide);have bj4:=bj 4 (by decide) (by decide);have bj5:=bj 5 (by decide) (by decide);have bj6:=bj 6 (by decide) (by decide);have bj7:=bj 7 (by decide) (by decide);have bj8:=bj 8 (by decide) (by decide);clear bj))) | fail)
   all_goals
    go_wp2_with fail
    go_meet
    first
     | with_reducible exact cutT_new kC
     | with_reducible exact cutT_set (boxTS HBC.out) (by omega) kC
  case rest=>
   obtain ⟨bo,rfl,hbo,hT,hU,hk⟩:=hcut
   have HK:=hidW (KV.out.trans (hk.mono (by omega)))
   have RD:Hid (Rd wc bo S base (.slice (some ⟨g1,0,none⟩) d.ths.length c1) (.slice s2 d.chs.length c2) (.slice s3 d.tr.length c3) L1 L2 d k q (q+1) 0 [a0,a1',a2',a3]):=⟨hT,HS.out.below HK.out hzS,HBS.out.same (HK.out.block S hzS),hU,HO.out.keep (fun x _ hx=>HK.out.block x hx),by omega,by have:=HK.out.size;omega,hSb,by omega⟩
   clear y0 y1 y2 y3 y4 y5 y6 CC kD v22 v20 v12
   obtain ⟨y0,y1,y2,y3,y4,y5,y6⟩:=SEL.out wc hk
   have zk:=hk.size
   have hbw:w.heap.size≤bo:=by omega
   have zx:W.heap.size < wc.heap.size:=by omega
   have HK7:=hidW (KV2.out.trans (hk.mono (by omega)))
   clear hT hU hk
   obtain ⟨w7,hw7⟩:∃ w7,w7=wc:=⟨_,rfl⟩
   subst hw7
   go_upto_region 8 with fail
   go_cut [10] (fun s10 wx=>CutD w7 bo S base (.slice (some ⟨g1,0,none⟩) d.ths.length c1) (.slice s2 d.chs.length c2) (.slice s3 d.tr.length c3) L1 L2 d k q (doM ⟨q,[a0,a1',a2',a3],0⟩ ⟨o,r,a,bb,n⟩ d.chs d.tr k) s10 wx)
   case first=>
    have hoo:o=1∨o=2∨o=3∨o=4∨o=5∨o=6∨o=7∨o=8∨o=9∨o=11∨o=12∨o=13:=by have:=HOK.out;omega
    rcases hoo with rfl | rfl | rfl | rfl | rfl | rfl | rfl | rfl | rfl | rfl | rfl | rfl
    ·skip
     have hne:=ext_ne w7
     have u0:=Ext.fit y2 zx
     have u1:=Ext.fit y3 zx
     have u2:=Ext.fit y4 zx
     have u3:=Ext.fit y5 zx
     have u4:=Ext.fit y6 zx
     have DX:Hid (∀ X,Below w7.heap.size w7 X→Calls Tryz.prog 65 #[.pointer (some ⟨bo,0,none⟩),.agg #[.int .i64 1,.int .i64 r,.int .i64 a,.int .i64 bb,.int .i64 n]] X fun e w'=>DoP X bo S base (.slice (some ⟨g1,0,none⟩) d.ths.length c1) (.slice s2 d.chs.length c2) (.slice s3 d.tr.length c3) L1 L2 d k q (doM ⟨q,[a0,a1',a2',a3],0⟩ ⟨1,r,a,bb,n⟩ d.chs d.tr k) e w'):=fun X hX=>do1 0 r a bb n bo S base _ _ _ _ _ L1 L2 d k q _ X (RD.out.below hX) BR.out.1 BR.out.2.1 BR.out.2.2
     go_wp2_with fail
     refine regionSuf w7 5 (by decide) (by kernel_rfl) (by kernel_rfl) (by kernel_rfl) (by kernel_rfl) ?_
     dsimp only [List.take,List.drop]
     repeat (go_big_quiet_step ((rename_i X;go_at_call 51;refine Calls.mono (doings_any _) ?_;rintro e w3 ⟨rfl,hb3⟩;exact ⟨rfl,X.on hb3⟩)))
     refine Go.BigFrame.wpQuiet_want (by rfl) (fun K hK=>⟨.func (.func 65) #[] #[],fun w' _=>?_,hK _ ?_⟩)
     ·simp [Oper.quietAt,execOp,Instr.index,Oper.quietUpon,go_sem]
     simp only [Act.put,List.setIfInBounds_toArray,List.set_cons_zero,List.set_cons_succ]
     repeat (go_big_quiet_step (fail))
     refine wpQuiet_nil ?_
     clear hne u0 u1 u2 u3 u4
     rintro w3 ⟨X3,rfl⟩
     obtain ⟨V2,hX3⟩:∃ V2,X3.w=V2:=⟨_,rfl⟩
     have hb3:=X3.b
     rw [hX3] at hb3 ⊢
     have HB3:=hidW hb3
     go_wp2_with fail
     refine (DX.out _ hb3).mono ?_
     intro e w9 h9
     obtain ⟨he,h9⟩:=h9
     subst he
     have H9:=hidW h9
     clear h9
     go_wp2_with fail
     go_meet
     exact ⟨_,HB3.out,rfl,H9.out⟩
    ·skip
     have hne:=ext_ne w7
     have u0:=Ext.fit y2 zx
     have u1:=Ext.fit y3 zx
     have u2:=Ext.fit y4 zx
     have u3:=Ext.fit y5 zx
     have u4:=Ext.fit y6 zx
     have DX:Hid (∀ X,Below w7.heap.size w7 X→Calls Tryz.prog 66 #[.pointer (some ⟨bo,0,none⟩),.agg #[.int .i64 2,.int .i64 r,.int .i64 a,.int .i64 bb,.int .i64 n]] X fun e w'=>DoP X bo S base (.slice (some ⟨g1,0,none⟩) d.ths.length c1) (.slice s2 d.chs.length c2) (.slice s3 d.tr.length c3) L1 L2 d k q (doM ⟨q,[a0,a1',a2',a3],0⟩ ⟨2,r,a,bb,n⟩ d.chs d.tr k) e w'):=fun X hX=>do2 0 r a bb n bo S base _ _ _ _ _ L1 L2 d k q _ X (RD.out.below hX) BR.out.1 BR.out.2.1 BR.out.2.2
     go_wp2_with fail
     refine regionSuf w7 5 (by decide) (by kernel_rfl) (by kernel_rfl) (by kernel_rfl) (by kernel_rfl) ?_
     dsimp only [List.take,List.drop]
     repeat (go_big_quiet_step ((rename_i X;go_at_call 51;refine Calls.mono (doings_any _) ?_;rintro e w3 ⟨rfl,hb3⟩;exact ⟨rfl,X.on hb3⟩)))
     refine Go.BigFrame.wpQuiet_want (by rfl) (fun K hK=>⟨.func (.func 66) #[] #[],fun w' _=>?_,hK _ ?_⟩)
     ·simp [Oper.quietAt,execOp,Instr.index,Oper.quietUpon,go_sem]
     simp only [Act.put,List.setIfInBounds_toArray,List.set_cons_zero,List.set_cons_succ]
     repeat (go_big_quiet_step (fail))
     refine wpQuiet_nil ?_
     clear hne u0 u1 u2 u3 u4
     rintro w3 ⟨X3,rfl⟩
     obtain ⟨V2,hX3⟩:∃ V2,X3.w=V2:=⟨_,rfl⟩
     have hb3:=X3.b
     rw [hX3] at hb3 ⊢
     have HB3:=hidW hb3
     go_wp2_with fail
     refine (DX.out _ hb3).mono ?_
     intro e w9 h9
     obtain ⟨he,h9⟩:=h9
     subst he
     have H9:=hidW h9
     clear h9
     go_wp2_with fail
     go_meet
     exact ⟨_,HB3.out,rfl,H9.out⟩
    ·skip
     have hne:=ext_ne w7
     have u0:=Ext.fit y2 zx
     have u1:=Ext.fit y3 zx
     have u2:=Ext.fit y4 zx
     have u3:=Ext.fit y5 zx
     have u4:=Ext.fit y6 zx
     have DX:Hid (∀ X,Below w7.heap.size w7 X→Calls Tryz.prog 67 #[.pointer (some ⟨bo,0,none⟩),.agg #[.int .i64 3,.int .i64 r,.int .i64 a,.int .i64 bb,.int .i64 n]] X fun e w'=>DoP X bo S base (.slice (some ⟨g1,0,none⟩) d.ths.length c1) (.slice s2 d.chs.length c2) (.slice s3 d.tr.length c3) L1 L2 d k q (doM ⟨q,[a0,a1',a2',a3],0⟩ ⟨3,r,a,bb,n⟩ d.chs d.tr k) e w'):=fun X hX=>do3 0 r a bb n bo S base _ _ _ _ _ L1 L2 d k q _ X (RD.out.below hX) BR.out.1 BR.out.2.1 BR.out.2.2
     go_wp2_with fail
     refine regionSuf w7 5 (by decide) (by kernel_rfl) (by kernel_rfl) (by kernel_rfl) (by kernel_rfl) ?_
     dsimp only [List.take,List.drop]
     repeat (go_big_quiet_step ((rename_i X;go_at_call 51;refine Calls.mono (doings_any _) ?_;rintro e w3 ⟨rfl,hb3⟩;exact ⟨rfl,X.on hb3⟩)))
     refine Go.BigFrame.wpQuiet_want (by rfl) (fun K hK=>⟨.func (.func 67) #[] #[],fun w' _=>?_,hK _ ?_⟩)
     ·simp [Oper.quietAt,execOp,Instr.index,Oper.quietUpon,go_sem]
     simp only [Act.put,List.setIfInBounds_toArray,List.set_cons_zero,List.set_cons_succ]
     repeat (go_big_quiet_step (fail))
     refine wpQuiet_nil ?_
     clear hne u0 u1 u2 u3 u4
     rintro w3 ⟨X3,rfl⟩
     obtain ⟨V2,hX3⟩:∃ V2,X3.w=V2:=⟨_,rfl⟩
     have hb3:=X3.b
     rw [hX3] at hb3 ⊢
     have HB3:=hidW hb3
     go_wp2_with fail
     refine (DX.out _ hb3).mono ?_
     intro e w9 h9
     obtain ⟨he,h9⟩:=h9
     subst he
     have H9:=hidW h9
     clear h9
     go_wp2_with fail
     go_meet
     exact ⟨_,HB3.out,rfl,H9.out⟩
    ·skip
     have hne:=ext_ne w7
     have u0:=Ext.fit y2 zx
     have u1:=Ext.fit y3 zx
     have u2:=Ext.fit y4 zx
     have u3:=Ext.fit y5 zx
     have u4:=Ext.fit y6 zx
     have DX:Hid (∀ X,Below w7.heap.size w7 X→Calls Tryz.prog 68 #[.pointer (some ⟨bo,0,none⟩),.agg #[.int .i64 4,.int .i64 r,.int .i64 a,.int .i64 bb,.int .i64 n]] X fun e w'=>DoP X bo S base (.slice (some ⟨g1,0,none⟩) d.ths.length c1) (.slice s2 d.chs.length c2) (.slice s3 d.tr.length c3) L1 L2 d k q (doM ⟨q,[a0,a1',a2',a3],0⟩ ⟨4,r,a,bb,n⟩ d.chs d.tr k) e w'):=fun X hX=>do4 0 r a bb n bo S base _ _ _ _ _ L1 L2 d k q _ X (RD.out.below hX) BR.out.1 BR.out.2.1 BR.out.2.2
     go_wp2_with fail
     refine regionSuf w7 5 (by decide) (by kernel_rfl) (by kernel_rfl) (by kernel_rfl) (by kernel_rfl) ?_
     dsimp only [List.take,List.drop]
     repeat (go_big_quiet_step ((rename_i X;go_at_call 51;refine Calls.mono (doings_any _) ?_;rintro e w3 ⟨rfl,hb3⟩;exact ⟨rfl,X.on hb3⟩)))
     refine Go.BigFrame.wpQuiet_want (by rfl) (fun K hK=>⟨.func (.func 68) #[] #[],fun w' _=>?_,hK _ ?_⟩)
     ·simp [Oper.quietAt,execOp,Instr.index,Oper.quietUpon,go_sem]
     simp only [Act.put,List.setIfInBounds_toArray,List.set_cons_zero,List.set_cons_succ]
     repeat (go_big_quiet_step (fail))
     refine wpQuiet_nil ?_
     clear hne u0 u1 u2 u3 u4
     rintro w3 ⟨X3,rfl⟩
     obtain ⟨V2,hX3⟩:∃ V2,X3.w=V2:=⟨_,rfl⟩
     have hb3:=X3.b
     rw [hX3] at hb3 ⊢
     have HB3:=hidW hb3
     go_wp2_with fail
     refine (DX.out _ hb3).mono ?_
     intro e w9 h9
     obtain ⟨he,h9⟩:=h9
     subst he
     have H9:=hidW h9
     clear h9
     go_wp2_with fail
     go_meet
     exact ⟨_,HB3.out,rfl,H9.out⟩
    ·skip
     have hne:=ext_ne w7
     have u0:=Ext.fit y2 zx
     have u1:=Ext.fit y3 zx
     have u2:=Ext.fit y4 zx
     have u3:=Ext.fit y5 zx
     have u4:=Ext.fit y6 zx
     have hn':0≤n∧n < (p.caps.length:Int):=by have:=HOK.out;omega
     obtain ⟨nn,hnn⟩:∃ m:Nat,n=m:=⟨n.toNat,by omega⟩
     obtain ⟨c,hc⟩:∃ c,d.chs[nn]? =some c:=⟨_,List.getElem?_eq_getElem (by have:=HCH.out;omega)⟩
     have hcc:=HR.out.ch nn c hc
     have hcn:d.chs.length≤3:=by have:=HCH.out;have:=HR.out.pc;omega
     have DX:Hid (∀ X,Below w7.heap.size w7 X→Calls Tryz.prog 69 #[.pointer (some ⟨bo,0,none⟩),.agg #[.int .i64 5,.int .i64 r,.int .i64 a,.int .i64 bb,.int .i64 n]] X fun e w'=>DoP X bo S base (.slice (some ⟨g1,0,none⟩) d.ths.length c1) (.slice s2 d.chs.length c2) (.slice s3 d.tr.length c3) L1 L2 d k q (doM ⟨q,[a0,a1',a2',a3],0⟩ ⟨5,r,a,bb,n⟩ d.chs d.tr k) e w'):=fun X hX=>do5 0 r a bb n bo S base _ _ _ _ _ L1 L2 d k q _ X (RD.out.below hX) BR.out.1 BR.out.2.1 BR.out.2.2 nn hnn c hc hcc.2 hcn hcc.1
     clear hn' hnn hc hcc hcn
     go_wp2_with fail
     refine regionSuf w7 5 (by decide) (by kernel_rfl) (by kernel_rfl) (by kernel_rfl) (by kernel_rfl) ?_
     dsimp only [List.take,List.drop]
     repeat (go_big_quiet_step ((rename_i X;go_at_call 51;refine Calls.mono (doings_any _) ?_;rintro e w3 ⟨rfl,hb3⟩;exact ⟨rfl,X.on hb3⟩)))
     refine Go.BigFrame.wpQuiet_want (by rfl) (fun K hK=>⟨.func (.func 69) #[] #[],fun w' _=>?_,hK _ ?_⟩)
     ·simp [Oper.quietAt,execOp,Instr.index,Oper.quietUpon,go_sem]
     simp only [Act.put,List.setIfInBounds_toArray,List.set_cons_zero,List.set_cons_succ]
     repeat (go_big_quiet_step (fail))
     refine wpQuiet_nil ?_
     clear hne u0 u1 u2 u3 u4
     rintro w3 ⟨X3,rfl⟩
     obtain ⟨V2,hX3⟩:∃ V2,X3.w=V2:=⟨_,rfl⟩
     have hb3:=X3.b
     rw [hX3] at hb3 ⊢
     have HB3:=hidW hb3
     go_wp2_with fail
     refine (DX.out _ hb3).mono ?_
     intro e w9 h9
     obtain ⟨he,h9⟩:=h9
     subst he
     have H9:=hidW h9
     clear h9
     go_wp2_with fail
     go_meet
     exact ⟨_,HB3.out,rfl,H9.out⟩
    ·skip
     have hne:=ext_ne w7
     have u0:=Ext.fit y2 zx
     have u1:=Ext.fit y3 zx
     have u2:=Ext.fit y4 zx
     have u3:=Ext.fit y5 zx
     have u4:=Ext.fit y6 zx
     have hn':0≤n∧n < (p.caps.length:Int)∧r≠bb:=by have:=HOK.out;omega
     obtain ⟨nn,hnn⟩:∃ m:Nat,n=m:=⟨n.toNat,by omega⟩
     obtain ⟨c,hc⟩:∃ c,d.chs[nn]? =some c:=⟨_,List.getElem?_eq_getElem (by have:=HCH.out;omega)⟩
     have hcc:=HR.out.ch nn c hc
     have hcn:d.chs.length≤3:=by have:=HCH.out;have:=HR.out.pc;omega
     have DX:Hid (∀ X,Below w7.heap.size w7 X→Calls Tryz.prog 70 #[.pointer (some ⟨bo,0,none⟩),.agg #[.int .i64 6,.int .i64 r,.int .i64 a,.int .i64 bb,.int .i64 n]] X fun e w'=>DoP X bo S base (.slice (some ⟨g1,0,none⟩) d.ths.length c1) (.slice s2 d.chs.length c2) (.slice s3 d.tr.length c3) L1 L2 d k q (doM ⟨q,[a0,a1',a2',a3],0⟩ ⟨6,r,a,bb,n⟩ d.chs d.tr k) e w'):=fun X hX=>do6 0 r a bb n bo S base _ _ _ _ _ L1 L2 d k q _ X (RD.out.below hX) BR.out.1 BR.out.2.1 BR.out.2.2 nn hnn c hc hcc.2 hcn hcc.1 hn'.2.2
     clear hn' hnn hc hcc hcn
     go_wp2_with fail
     refine regionSuf w7 5 (by decide) (by kernel_rfl) (by kernel_rfl) (by kernel_rfl) (by kernel_rfl) ?_
     dsimp only [List.take,List.drop]
     repeat (go_big_quiet_step ((rename_i X;go_at_call 51;refine Calls.mono (doings_any _) ?_;rintro e w3 ⟨rfl,hb3⟩;exact ⟨rfl,X.on hb3⟩)))
     refine Go.BigFrame.wpQuiet_want (by rfl) (fun K hK=>⟨.func (.func 70) #[] #[],fun w' _=>?_,hK _ ?_⟩)
     ·simp [Oper.quietAt,execOp,Instr.index,Oper.quietUpon,go_sem]
     simp only [Act.put,List.setIfInBounds_toArray,List.set_cons_zero,List.set_cons_succ]
     repeat (go_big_quiet_step (fail))
     refine wpQuiet_nil ?_
     clear hne u0 u1 u2 u3 u4
     rintro w3 ⟨X3,rfl⟩
     obtain ⟨V2,hX3⟩:∃ V2,X3.w=V2:=⟨_,rfl⟩
     have hb3:=X3.b
     rw [hX3] at hb3 ⊢
     have HB3:=hidW hb3
     go_wp2_with fail
     refine (DX.out _ hb3).mono ?_
     intro e w9 h9
     obtain ⟨he,h9⟩:=h9
     subst he
     have H9:=hidW h9
     clear h9
     go_wp2_with fail
     go_meet
     exact ⟨_,HB3.out,rfl,H9.out⟩
    ·skip
     have hne:=ext_ne w7
     have u0:=Ext.fit y2 zx
     have u1:=Ext.fit y3 zx
     have u2:=Ext.fit y4 zx
     have u3:=Ext.fit y5 zx
     have u4:=Ext.fit y6 zx
     have hn':0≤n∧n < (p.caps.length:Int):=by have:=HOK.out;omega
     obtain ⟨nn,hnn⟩:∃ m:Nat,n=m:=⟨n.toNat,by omega⟩
     obtain ⟨c,hc⟩:∃ c,d.chs[nn]? =some c:=⟨_,List.getElem?_eq_getElem (by have:=HCH.out;omega)⟩
     have hcc:=HR.out.ch nn c hc
     have hcn:d.chs.length≤3:=by have:=HCH.out;have:=HR.out.pc;omega
     have DX:Hid (∀ X,Below w7.heap.size w7 X→Calls Tryz.prog 71 #[.pointer (some ⟨bo,0,none⟩),.agg #[.int .i64 7,.int .i64 r,.int .i64 a,.int .i64 bb,.int .i64 n]] X fun e w'=>DoP X bo S base (.slice (some ⟨g1,0,none⟩) d.ths.length c1) (.slice s2 d.chs.length c2) (.slice s3 d.tr.length c3) L1 L2 d k q (doM ⟨q,[a0,a1',a2',a3],0⟩ ⟨7,r,a,bb,n⟩ d.chs d.tr k) e w'):=fun X hX=>do7 0 r a bb n bo S base _ _ _ _ _ L1 L2 d k q _ X (RD.out.below hX) BR.out.1 BR.out.2.1 BR.out.2.2 nn hnn c hc hcc.2 hcn hcc.1
     clear hn' hnn hc hcc hcn
     go_wp2_with fail
     refine regionSuf w7 5 (by decide) (by kernel_rfl) (by kernel_rfl) (by kernel_rfl) (by kernel_rfl) ?_
     dsimp only [List.take,List.drop]
     repeat (go_big_quiet_step ((rename_i X;go_at_call 51;refine Calls.mono (doings_any _) ?_;rintro e w3 ⟨rfl,hb3⟩;exact ⟨rfl,X.on hb3⟩)))
     refine Go.BigFrame.wpQuiet_want (by rfl) (fun K hK=>⟨.func (.func 71) #[] #[],fun w' _=>?_,hK _ ?_⟩)
     ·simp [Oper.quietAt,execOp,Instr.index,Oper.quietUpon,go_sem]
     simp only [Act.put,List.setIfInBounds_toArray,List.set_cons_zero,List.set_cons_succ]
     repeat (go_big_quiet_step (fail))
     refine wpQuiet_nil ?_
     clear hne u0 u1 u2 u3 u4
     rintro w3 ⟨X3,rfl⟩
     obtain ⟨V2,hX3⟩:∃ V2,X3.w=V2:=⟨_,rfl⟩
     have hb3:=X3.b
     rw [hX3] at hb3 ⊢
     have HB3:=hidW hb3
     go_wp2_with fail
     refine (DX.out _ hb3).mono ?_
     intro e w9 h9
     obtain ⟨he,h9⟩:=h9
     subst he
     have H9:=hidW h9
     clear h9
     go_wp2_with fail
     go_meet
     exact ⟨_,HB3.out,rfl,H9.out⟩
    ·skip
     have hne:=ext_ne w7
     have u0:=Ext.fit y2 zx
     have u1:=Ext.fit y3 zx
     have u2:=Ext.fit y4 zx
     have u3:=Ext.fit y5 zx
     have u4:=Ext.fit y6 zx
     have hn':0≤n∧n < (p.caps.length:Int)∧r≠bb:=by have:=HOK.out;omega
     obtain ⟨nn,hnn⟩:∃ m:Nat,n=m:=⟨n.toNat,by omega⟩
     obtain ⟨c,hc⟩:∃ c,d.chs[nn]? =some c:=⟨_,List.getElem?_eq_getElem (by have:=HCH.out;omega)⟩
     have hcc:=HR.out.ch nn c hc
     have hcn:d.chs.length≤3:=by have:=HCH.out;have:=HR.out.pc;omega
     have DX:Hid (∀ X,Below w7.heap.size w7 X→Calls Tryz.prog 72 #[.pointer (some ⟨bo,0,none⟩),.agg #[.int .i64 8,.int .i64 r,.int .i64 a,.int .i64 bb,.int .i64 n]] X fun e w'=>DoP X bo S base (.slice (some ⟨g1,0,none⟩) d.ths.length c1) (.slice s2 d.chs.length c2) (.slice s3 d.tr.length c3) L1 L2 d k q (doM ⟨q,[a0,a1',a2',a3],0⟩ ⟨8,r,a,bb,n⟩ d.chs d.tr k) e w'):=fun X hX=>do8 0 r a bb n bo S base _ _ _ _ _ L1 L2 d k q _ X (RD.out.below hX) BR.out.1 BR.out.2.1 BR.out.2.2 nn hnn c hc hcc.2 hcn hcc.1 hn'.2.2
     clear hn' hnn hc hcc hcn
     go_wp2_with fail
     refine regionSuf w7 5 (by decide) (by kernel_rfl) (by kernel_rfl) (by kernel_rfl) (by kernel_rfl) ?_
     dsimp only [List.take,List.drop]
     repeat (go_big_quiet_step ((rename_i X;go_at_call 51;refine Calls.mono (doings_any _) ?_;rintro e w3 ⟨rfl,hb3⟩;exact ⟨rfl,X.on hb3⟩)))
     refine Go.BigFrame.wpQuiet_want (by rfl) (fun K hK=>⟨.func (.func 72) #[] #[],fun w' _=>?_,hK _ ?_⟩)
     ·simp [Oper.quietAt,execOp,Instr.index,Oper.quietUpon,go_sem]
     simp only [Act.put,List.setIfInBounds_toArray,List.set_cons_zero,List.set_cons_succ]
     repeat (go_big_quiet_step (fail))
     refine wpQuiet_nil ?_
     clear hne u0 u1 u2 u3 u4
     rintro w3 ⟨X3,rfl⟩
     obtain ⟨V2,hX3⟩:∃ V2,X3.w=V2:=⟨_,rfl⟩
     have hb3:=X3.b
     rw [hX3] at hb3 ⊢
     have HB3:=hidW hb3
     go_wp2_with fail
     refine (DX.out _ hb3).mono ?_
     intro e w9 h9
     obtain ⟨he,h9⟩:=h9
     subst he
     have H9:=hidW h9
     clear h9
     go_wp2_with fail
     go_meet
     exact ⟨_,HB3.out,rfl,H9.out⟩
    ·skip
     have hne:=ext_ne w7
     have u0:=Ext.fit y2 zx
     have u1:=Ext.fit y3 zx
     have u2:=Ext.fit y4 zx
     have u3:=Ext.fit y5 zx
     have u4:=Ext.fit y6 zx
     have hn':0≤n∧n < (p.caps.length:Int):=by have:=HOK.out;omega
     obtain ⟨nn,hnn⟩:∃ m:Nat,n=m:=⟨n.toNat,by omega⟩
     obtain ⟨c,hc⟩:∃ c,d.chs[nn]? =some c:=⟨_,List.getElem?_eq_getElem (by have:=HCH.out;omega)⟩
     have hcc:=HR.out.ch nn c hc
     have hcn:d.chs.length≤3:=by have:=HCH.out;have:=HR.out.pc;omega
     have DX:Hid (∀ X,Below w7.heap.size w7 X→Calls Tryz.prog 73 #[.pointer (some ⟨bo,0,none⟩),.agg #[.int .i64 9,.int .i64 r,.int .i64 a,.int .i64 bb,.int .i64 n]] X fun e w'=>DoP X bo S base (.slice (some ⟨g1,0,none⟩) d.ths.length c1) (.slice s2 d.chs.length c2) (.slice s3 d.tr.length c3) L1 L2 d k q (doM ⟨q,[a0,a1',a2',a3],0⟩ ⟨9,r,a,bb,n⟩ d.chs d.tr k) e w'):=fun X hX=>do9 0 r a bb n bo S base _ _ _ _ _ L1 L2 d k q _ X (RD.out.below hX) BR.out.1 BR.out.2.1 BR.out.2.2 nn hnn c hc hcc.2 hcn hcc.1
     clear hn' hnn hc hcc hcn
     go_wp2_with fail
     refine regionSuf w7 5 (by decide) (by kernel_rfl) (by kernel_rfl) (by kernel_rfl) (by kernel_rfl) ?_
     dsimp only [List.take,List.drop]
     repeat (go_big_quiet_step ((rename_i X;go_at_call 51;refine Calls.mono (doings_any _) ?_;rintro e w3 ⟨rfl,hb3⟩;exact ⟨rfl,X.on hb3⟩)))
     refine Go.BigFrame.wpQuiet_want (by rfl) (fun K hK=>⟨.func (.func 73) #[] #[],fun w' _=>?_,hK _ ?_⟩)
     ·simp [Oper.quietAt,execOp,Instr.index,Oper.quietUpon,go_sem]
     simp only [Act.put,List.setIfInBounds_toArray,List.set_cons_zero,List.set_cons_succ]
     repeat (go_big_quiet_step (fail))
     refine wpQuiet_nil ?_
     clear hne u0 u1 u2 u3 u4
     rintro w3 ⟨X3,rfl⟩
     obtain ⟨V2,hX3⟩:∃ V2,X3.w=V2:=⟨_,rfl⟩
     have hb3:=X3.b
     rw [hX3] at hb3 ⊢
     have HB3:=hidW hb3
     go_wp2_with fail
     refine (DX.out _ hb3).mono ?_
     intro e w9 h9
     obtain ⟨he,h9⟩:=h9
     subst he
     have H9:=hidW h9
     clear h9
     go_wp2_with fail
     go_meet
     exact ⟨_,HB3.out,rfl,H9.out⟩
    ·skip
     have hne:=ext_ne w7
     have u0:=Ext.fit y2 zx
     have u1:=Ext.fit y3 zx
     have u2:=Ext.fit y4 zx
     have u3:=Ext.fit y5 zx
     have u4:=Ext.fit y6 zx
     have DX:Hid (∀ X,Below w7.heap.size w7 X→Calls Tryz.prog 75 #[.pointer (some ⟨bo,0,none⟩),.agg #[.int .i64 11,.int .i64 r,.int .i64 a,.int .i64 bb,.int .i64 n]] X fun e w'=>DoP X bo S base (.slice (some ⟨g1,0,none⟩) d.ths.length c1) (.slice s2 d.chs.length c2) (.slice s3 d.tr.length c3) L1 L2 d k q (doM ⟨q,[a0,a1',a2',a3],0⟩ ⟨11,r,a,bb,n⟩ d.chs d.tr k) e w'):=fun X hX=>do11 0 r a bb n bo S base _ _ _ _ _ L1 L2 d k q _ X (RD.out.below hX) BR.out.1 BR.out.2.1 BR.out.2.2
     go_wp2_with fail
     refine regionSuf w7 5 (by decide) (by kernel_rfl) (by kernel_rfl) (by kernel_rfl) (by kernel_rfl) ?_
     dsimp only [List.take,List.drop]
     repeat (go_big_quiet_step ((rename_i X;go_at_call 51;refine Calls.mono (doings_any _) ?_;rintro e w3 ⟨rfl,hb3⟩;exact ⟨rfl,X.on hb3⟩)))
     refine Go.BigFrame.wpQuiet_want (by rfl) (fun K hK=>⟨.func (.func 75) #[] #[],fun w' _=>?_,hK _ ?_⟩)
     ·simp [Oper.quietAt,execOp,Instr.index,Oper.quietUpon,go_sem]
     simp only [Act.put,List.setIfInBounds_toArray,List.set_cons_zero,List.set_cons_succ]
     repeat (go_big_quiet_step (fail))
     refine wpQuiet_nil ?_
     clear hne u0 u1 u2 u3 u4
     rintro w3 ⟨X3,rfl⟩
     obtain ⟨V2,hX3⟩:∃ V2,X3.w=V2:=⟨_,rfl⟩
     have hb3:=X3.b
     rw [hX3] at hb3 ⊢
     have HB3:=hidW hb3
     go_wp2_with fail
     refine (DX.out _ hb3).mono ?_
     intro e w9 h9
     obtain ⟨he,h9⟩:=h9
     subst he
     have H9:=hidW h9
     clear h9
     go_wp2_with fail
     go_meet
     exact ⟨_,HB3.out,rfl,H9.out⟩
    ·skip
     have hne:=ext_ne w7
     have u0:=Ext.fit y2 zx
     have u1:=Ext.fit y3 zx
     have u2:=Ext.fit y4 zx
     have u3:=Ext.fit y5 zx
     have u4:=Ext.fit y6 zx
     have DX:Hid (∀ X,Below w7.heap.size w7 X→Calls Tryz.prog 76 #[.pointer (some ⟨bo,0,none⟩),.agg #[.int .i64 12,.int .i64 r,.int .i64 a,.int .i64 bb,.int .i64 n]] X fun e w'=>DoP X bo S base (.slice (some ⟨g1,0,none⟩) d.ths.length c1) (.slice s2 d.chs.length c2) (.slice s3 d.tr.length c3) L1 L2 d k q (doM ⟨q,[a0,a1',a2',a3],0⟩ ⟨12,r,a,bb,n⟩ d.chs d.tr k) e w'):=fun X hX=>do12 0 r a bb n bo S base _ _ _ _ _ L1 L2 d k q _ X (RD.out.below hX) BR.out.1 BR.out.2.1 BR.out.2.2
     go_wp2_with fail
     refine regionSuf w7 5 (by decide) (by kernel_rfl) (by kernel_rfl) (by kernel_rfl) (by kernel_rfl) ?_
     dsimp only [List.take,List.drop]
     repeat (go_big_quiet_step ((rename_i X;go_at_call 51;refine Calls.mono (doings_any _) ?_;rintro e w3 ⟨rfl,hb3⟩;exact ⟨rfl,X.on hb3⟩)))
     refine Go.BigFrame.wpQuiet_want (by rfl) (fun K hK=>⟨.func (.func 76) #[] #[],fun w' _=>?_,hK _ ?_⟩)
     ·simp [Oper.quietAt,execOp,Instr.index,Oper.quietUpon,go_sem]
     simp only [Act.put,List.setIfInBounds_toArray,List.set_cons_zero,List.set_cons_succ]
     repeat (go_big_quiet_step (fail))
     refine wpQuiet_nil ?_
     clear hne u0 u1 u2 u3 u4
     rintro w3 ⟨X3,rfl⟩
     obtain ⟨V2,hX3⟩:∃ V2,X3.w=V2:=⟨_,rfl⟩
     have hb3:=X3.b
     rw [hX3] at hb3 ⊢
     have HB3:=hidW hb3
     go_wp2_with fail
     refine (DX.out _ hb3).mono ?_
     intro e w9 h9
     obtain ⟨he,h9⟩:=h9
     subst he
     have H9:=hidW h9
     clear h9
     go_wp2_with fail
     go_meet
     exact ⟨_,HB3.out,rfl,H9.out⟩
    ·skip
     have hne:=ext_ne w7
     have u0:=Ext.fit y2 zx
     have u1:=Ext.fit y3 zx
     have u2:=Ext.fit y4 zx
     have u3:=Ext.fit y5 zx
     have u4:=Ext.fit y6 zx
     have DX:Hid (∀ X,Below w7.heap.size w7 X→Calls Tryz.prog 77 #[.pointer (some ⟨bo,0,none⟩),.agg #[.int .i64 13,.int .i64 r,.int .i64 a,.int .i64 bb,.int .i64 n]] X fun e w'=>DoP X bo S base (.slice (some ⟨g1,0,none⟩) d.ths.length c1) (.slice s2 d.chs.length c2) (.slice s3 d.tr.length c3) L1 L2 d k q (doM ⟨q,[a0,a1',a2',a3],0⟩ ⟨13,r,a,bb,n⟩ d.chs d.tr k) e w'):=fun X hX=>do13 0 r a bb n bo S base _ _ _ _ _ L1 L2 d k q _ X (RD.out.below hX) BR.out.1 BR.out.2.1 BR.out.2.2
     go_wp2_with fail
     refine regionSuf w7 5 (by decide) (by kernel_rfl) (by kernel_rfl) (by kernel_rfl) (by kernel_rfl) ?_
     dsimp only [List.take,List.drop]
     repeat (go_big_quiet_step ((rename_i X;go_at_call 51;refine Calls.mono (doings_any _) ?_;rintro e w3 ⟨rfl,hb3⟩;exact ⟨rfl,X.on hb3⟩)))
     refine Go.BigFrame.wpQuiet_want (by rfl) (fun K hK=>⟨.func (.func 77) #[] #[],fun w' _=>?_,hK _ ?_⟩)
     ·simp [Oper.quietAt,execOp,Instr.index,Oper.quietUpon,go_sem]
     simp only [Act.put,List.setIfInBounds_toArray,List.set_cons_zero,List.set_cons_succ]
     repeat (go_big_quiet_step (fail))
     refine wpQuiet_nil ?_
     clear hne u0 u1 u2 u3 u4
     rintro w3 ⟨X3,rfl⟩
     obtain ⟨V2,hX3⟩:∃ V2,X3.w=V2:=⟨_,rfl⟩
     have hb3:=X3.b
     rw [hX3] at hb3 ⊢
     have HB3:=hidW hb3
     go_wp2_with fail
     refine (DX.out _ hb3).mono ?_
     intro e w9 h9
     obtain ⟨he,h9⟩:=h9
     subst he
     have H9:=hidW h9
     clear h9
     go_wp2_with fail
     go_meet
     exact ⟨_,HB3.out,rfl,H9.out⟩
   case rest=>
   obtain ⟨X,kX,hs,s4,n4,c4,L2',q9⟩:=hcut
   injection hs with hs
   subst hs
   have HQ9:=hidW q9
   have zz:=kX.size
   have KX:=hidW (HK.out.trans (kX.mono (by have:=HK.out.size;omega)))
   have KWX:=hidW (HK7.out.trans (kX.mono (by omega)))
   clear q9 kX
   generalize hDM:doM ⟨q,[a0,a1',a2',a3],0⟩ ⟨o,r,a,bb,n⟩ d.chs d.tr k=o9 at *
   obtain ⟨cd,hcd⟩:∃ cd,o9.code=cd:=⟨_,rfl⟩
   rw [hcd]
   by_cases h1:cd=1
   ·subst h1
    obtain ⟨k4,kd,kc,kt⟩:=K1.out hcd
    have HKC:=hidW kc
    have HKT:=hidW kt
    clear kc kt
    subst k4 kd
    go_wp2
    go_ret
    have q9:=HQ9.out
    rw [HKC.out,HKT.out] at q9
    exact turn_wait KX.out hbw hb q9 (Below.refl _ _)
   ·have h1':(cd==1)=false:=by simp [h1]
    have q9:=HQ9.out
    have zX:w.heap.size < X.heap.size:=by have:=KWX.out.size;omega
    have zb1:w.heap.size≠bo:=by omega
    have zb2:w.heap.size≠S:=by omega
    have pf:wc.heap[w.heap.size]? =X.heap[w.heap.size]? :=q9.f w.heap.size zX zb1 (fun h=>by have:=(HO.out.hit h).2;omega) zb2
    have pm:wc.cell? ⟨w.heap.size,1,none⟩=some (.slice (some ⟨gb,ob,none⟩) p.bods.length a2):=(World.cell?_of_block (a:=⟨w.heap.size,1,none⟩) pf).trans ((KWX.out.cell (p:=⟨w.heap.size,1,none⟩) wz).trans m1)
    have pb':wc.cell? ⟨gb,ob+k,none⟩=some (.slice (some ⟨gi,oi,none⟩) nb cb):=(q9.b.cell (p:=⟨gb,_,none⟩) ib).trans ((KWX.out.cell (p:=⟨gb,_,none⟩) zgb).trans b0')
    have zc1:w.heap.size < wc.heap.size:=by have:=q9.b.size;have:=KX.out.size;have:=KWX.out.size;omega
    have zc2:gb < wc.heap.size:=by omega
    obtain ⟨k0,kd⟩:=K0.out (by rw [hcd];exact h1)
    have HKD:=hidW kd
    have HK0:=hidW k0
    clear q9 kd k0
    go_wp2_with fail
    refine (settle_any bo S base n4 c4 g1 c1 k nb s4 _ L1 L2' ⟨d.ths,o9.chs,o9.tr⟩ k q o9.nx o9.st o9.rg ⟨q,[a0,a1',a2',a3],0⟩ cd _ HQ9.out.r HT.out H4.out (by omega)).mono ?_
    rintro e w8 ⟨rfl,M,sq⟩
    rw [← hcd] at sq
    have SQ:=hidW sq
    clear sq
    go_wp2_with fail
    go_ret
    rw [HK0.out,HKD.out]
    exact turn_set KX.out hbw hb HQ9.out SQ.out
end Go.Proofs.YtknffngbdakblaaGreat
