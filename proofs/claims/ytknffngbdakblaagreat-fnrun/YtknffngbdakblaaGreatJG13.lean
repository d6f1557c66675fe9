/- A turn's doings on channels: sending, taking, closing. Conditions: the channel has at most four numbers. What a turn's doing makes of it, and that this is a step. No condition. What a turn stands on, and what a doing makes of it. No condition. -/
import Derived.Test.YtknffngbdakblaaGreatJG08
import Derived.Test.YtknffngbdakblaaGreatJG12
import Derived.Test.YtknffngbdakblaaGreatJG06
import Derived.Test.YtknffngbdakblaaGreatJG00
import Derived.Test.YtknffngbdakblaaGreatJG09
import Derived.Test.YtknffngbdakblaaGreatJG03
import Derived.Test.YtknffngbdakblaaGreatJChTake
import Derived.Test.YtknffngbdakblaaGreatJG04
import Derived.Test.YtknffngbdakblaaGreatJG05
import Derived.Test.YtknffngbdakblaaGreatJStepIm2
import Derived.Test.YtknffngbdakblaaGreatJG01
import Derived.Test.YtknffngbdakblaaGreatJG07
import Derived.Test.YtknffngbdakblaaGreatJG10
namespace Go.Proofs.YtknffngbdakblaaGreat
section
set_option linter.unusedSimpArgs false
set_option linter.unusedVariables false
set_option maxRecDepth 100000
open Go.RowKit
def ChP (w:World) (base:Nat) (v1 v2 v3:Value) (L1 L2:List (Rec×Value)) (d:SD) (n:Nat) (c:CD) (w':World):Prop:=(∃ L2',OwnS w' base v1 v2 v3 L1 L2' ⟨d.ths,d.chs.set n c,d.tr⟩∧∀ q,HitQ v2 L2' q→HitQ v2 L2 q∨w.heap.size≤q)∧(∀ b,b < w.heap.size→v2.ownBlock≠some b→w'.heap[b]? =w.heap[b]?)∧Below base w w'
/- a box of a channel that may be there -/
def BoxC (X:World):Option Nat→Prop
 | none=>True
 | some q=>BoF q X (.int .i64 0) (.slice none 0 0) (.bool false)
theorem boxCS {X:World} {q:Nat} (h:BoxC X (some q)):BoF q X (.int .i64 0) (.slice none 0 0) (.bool false):=h
theorem BoxC.keep {X Y:World} {p:Option Nat} (h:BoxC X p) (hb:Below X.heap.size X Y):BoxC Y p:=by
 cases p with
 | none=>trivial
 | some p=>exact BoF.below h hb h.z
theorem boxC0 (X:World):BoxC (X.alloc (.cells #[.int .i64 0,.slice none 0 0,.bool false] 65)) (some X.heap.size):=by
 obtain ⟨W,h,b,-,-⟩:=BoF.new X (.int .i64 0) (.slice none 0 0) (.bool false) 65
 rw [← h] at b
 exact b
theorem boxCD {X:World} {p:Option Nat} (h:BoxC X p):BoxC X.drew p:=by
 cases p with
 | none=>trivial
 | some p=>exact ⟨h.c0,h.c1,h.c2,h.f,h.z⟩
theorem boxCN (X:World):BoxC X none:=trivial
def CutH (W:World) (y:CD) (K:Int) (s5 s6:Value) (wc:World):Prop:=∃ (bo:Nat) (t1:Option Addr) (e1:Nat),s5=.pointer (some ⟨bo,0,none⟩)∧s6=.int .i64 K∧W.heap.size≤bo∧BoF bo wc (.int .i64 y.cap) (.slice t1 y.list.length e1) (.bool y.cl)∧OwnN wc W.heap.size (.slice t1 y.list.length e1) y.list∧Below W.heap.size W wc
theorem cutH_new {W wM:World} {cap K:Int} {l:List Int} {cl:Bool} {t1:Option Addr} {e1:Nat} (q:OwnN wM W.heap.size (.slice t1 l.length e1) l) (kk:Below W.heap.size W wM):CutH W ⟨cap,l,cl⟩ K (.pointer (some ⟨wM.heap.size,0,none⟩)) (.int .i64 K) (wM.alloc (.cells #[.int .i64 cap,.slice t1 l.length e1,.bool cl] 65)):=by
 obtain ⟨Y,hY,x,kY,-⟩:=BoF.new wM (.int .i64 cap) (.slice t1 l.length e1) (.bool cl) 65
 rw [hY]
 exact ⟨wM.heap.size,t1,e1,rfl,rfl,kk.size,x,ownKeep' q (fun b hb=>kY.block b (World.ownsRow.lt q _ hb).2),kk.trans (kY.mono kk.size)⟩
theorem cutH_set {W wM:World} {cap K:Int} {l:List Int} {cl:Bool} {t1:Option Addr} {e1 bo:Nat} (b:BoF bo wM (.int .i64 0) (.slice none 0 0) (.bool false)) (hbo:W.heap.size≤bo) (hf:Hid (∀ b,(Value.slice t1 l.length e1).ownBlock=some b→b≠bo)) (q:OwnN wM W.heap.size (.slice t1 l.length e1) l) (kk:Below W.heap.size W wM):CutH W ⟨cap,l,cl⟩ K (.pointer (some ⟨bo,0,none⟩)) (.int .i64 K) (((wM.setCell ⟨bo,0,none⟩ (.int .i64 cap)).setCell ⟨bo,1,none⟩ (.slice t1 l.length e1)).setCell ⟨bo,2,none⟩ (.bool cl)):=by
 refine ⟨bo,t1,e1,rfl,rfl,hbo,((b.set0 _).set1 _).set2 _,ownKeep' q (fun x hx=>?_),((kk.setCell (p:=⟨bo,_,none⟩) hbo _).setCell (p:=⟨bo,_,none⟩) hbo _).setCell (p:=⟨bo,_,none⟩) hbo _⟩
 rw [Below.heap_setCell _ _ _ x (hf.out x hx),Below.heap_setCell _ _ _ x (hf.out x hx),Below.heap_setCell _ _ _ x (hf.out x hx)]
/- the channel put in its place, out of its box -/
theorem chP_of {w V:World} {base g2 c2 n:Nat} {v1 v3:Value} {L1 L2:List (Rec×Value)} {d:SD} (hO:OwnS w base v1 (.slice (some ⟨g2,0,none⟩) d.chs.length c2) v3 L1 L2 d) (hb:base≤w.heap.size) (hn:n < d.chs.length) (y:CD) (u:Value) (hu:OwnN V w.heap.size u y.list) (hV:Below w.heap.size w V) (hg:base≤g2):ChP w base v1 (.slice (some ⟨g2,0,none⟩) d.chs.length c2) v3 L1 L2 d n y (set3 V g2 (n * 3) (.int .i64 y.cap) u (.bool y.cl)):=by
 obtain ⟨L2',o,q⟩:=(hO.keep (w':=V) (fun b _ hb=>hV.block b hb)).setC hn y u (ownLow' hu hb) (fun i x b hx h1 h2=>by have a1:=(World.ownsRow.lt hu _ h1).1;have a2:=(hO.hit (.inl (.inr ⟨i,x,hx,h2⟩))).2;omega) (fun i x b hx h1 h2=>by have a1:=(World.ownsRow.lt hu _ h1).1;have a2:=(hO.hit (.inr (.inl (.inr ⟨i,x,hx,h2⟩)))).2;omega)
 refine ⟨⟨L2',o,fun z hz=>(q z hz).imp id (fun h1=>(World.ownsRow.lt hu _ h1).1)⟩,fun b h1 h2=>(set3_block (fun e=>h2 (by rw [e];rfl))).trans (hV.block b h1),?_⟩
 unfold set3
 refine Below.setCell (Below.setCell (Below.setCell (hV.mono hb) ?_ _) ?_ _) ?_ _<;>exact hg
set_option maxHeartbeats 4000000 in
theorem send_any (o r a bb : Int) (n b S base g2 c2 : Nat) (who pc nx st : Int) (rg : List Int) (v1 v3 : Value) (L1 L2 : List (Rec × Value)) (d : SD) (c : CD) (w : World) (h : Tn w b S who pc nx st rg) (ha : 0 ≤ a ∧ a ≤ 3) (hS : BoF S w v1 (.slice (some ⟨g2, 0, none⟩) d.chs.length c2) v3) (hO : OwnS w base v1 (.slice (some ⟨g2, 0, none⟩) d.chs.length c2) v3 L1 L2 d) (hb : base ≤ w.heap.size) (hc : d.chs[n]? = some c) (hcl : c.list.length ≤ 4) (hcn : d.chs.length ≤ 3) :
  Calls Tryz.prog 69 #[.pointer (some ⟨b,0,none⟩),.agg #[.int .i64 o,.int .i64 r,.int .i64 a,.int .i64 bb,.int .i64 n]] w fun e w'=>e=.returned (.int .i64 (sendK c.cap c.list c.cl))∧ChP w base v1 (.slice (some ⟨g2,0,none⟩) d.chs.length c2) v3 L1 L2 d n ⟨c.cap,sendL c.cap c.list c.cl (regN rg a),c.cl⟩ w':=by
 obtain ⟨a',ha'⟩:∃ a':Nat,a=a':=⟨a.toNat,by omega⟩
 subst ha'
 have ba0:(0:Int)≤(a':Int):=by omega
 have ba1:(a':Int) < 4:=by omega
 have hn:n < d.chs.length:=(List.getElem?_eq_some_iff.1 hc).1
 have bn0:(0:Int)≤(n:Int):=by omega
 have bn1:(n:Int) < (d.chs.length:Int):=by omega
 obtain ⟨g9,c9,y9,e9,hy9,ey9,hg0,hg1,k0,k1,k2,kf⟩:=hO.chanAt hc
 injection e9 with h1 h2 h3
 injection h1 with h1
 injection h1 with h1
 subst h1 h3
 clear h2
 have HO9:OwnN w base y9.2 c.list:=by have q:=hO.c.inn n y9 hy9;rw [ey9] at q;exact q
 obtain ⟨sl,cl9,ey2,hrow⟩:=HO9.row
 rw [ey2] at k1
 have hok:c.list.length≤1073741824:=by omega
 obtain ⟨va,hva⟩:∃ v,rg.getD a' 0=v:=⟨_,rfl⟩
 have HVA:=hidW hva
 have HT:=hidW h
 have HS:=hidW hS
 have HO:=hidW hO
 have HROW:=hidW hrow
 have hz:=h.z
 have hzS:=hS.z
 have hr:=h.r a' (by omega)
 rw [hva] at hr
 have K0:=hidW k0
 have K1:=hidW k1
 have K2:=hidW k2
 have KF:=hidW kf
 have HR:=hidW hr
 obtain ⟨y,hy⟩:∃ y:CD,⟨c.cap,sendL c.cap c.list c.cl (va),c.cl⟩=y:=⟨_,rfl⟩
 obtain ⟨KK,hKK⟩:∃ K:Int,sendK c.cap c.list c.cl=K:=⟨_,rfl⟩
 have ey:⟨c.cap,sendL c.cap c.list c.cl (regN rg (a':Int)),c.cl⟩=y:=by subst hy;first | rfl | simp only [regN,Int.toNat_natCast,hva]
 rw [ey,hKK]
 clear ey
 obtain ⟨W,hW,hx,kW,zW⟩:=Xb.new w (.int .i64 o) (.int .i64 r) (.int .i64 a') (.int .i64 bb) (.int .i64 n) 85
 have HWW:=hidW hW
 have KW:=hidW kW
 have HX:=hidW hx
 clear h hS hO hrow hW hx hva hy9 ey9 HO9 ey2 hr k0 k1 k2 kf hc
 have SEL:Hid (∀ X,Below W.heap.size W X→X.cell? ⟨w.heap.size,2,none⟩=some (.int .i64 a')∧X.cell? ⟨w.heap.size,4,none⟩=some (.int .i64 n)∧X.cell? ⟨b,0,none⟩=some (.pointer (some ⟨S,0,none⟩))∧X.cell? ⟨b,5+a',none⟩=some (.int .i64 va)∧X.cell? ⟨S,1,none⟩=some (.slice (some ⟨g2,0,none⟩) d.chs.length c2)∧X.cell? ⟨g2,n * 3,none⟩=some (.int .i64 c.cap)∧X.cell? ⟨g2,n * 3+1,none⟩=some (.slice sl c.list.length cl9)∧X.cell? ⟨g2,n * 3+2,none⟩=some (.bool c.cl)):=fun X hX=>by
  have kX:Below w.heap.size w X:=KW.out.trans (hX.mono (by omega))
  have x:=HX.out.below hX zW
  have q:∀ g j,g < w.heap.size→X.cell? ⟨g,j,none⟩=w.cell? ⟨g,j,none⟩:=fun g j hg=>kX.cell (p:=⟨g,j,none⟩) hg
  exact ⟨x.c2,x.c4,(q _ _ hz).trans HT.out.c0,(q _ _ hz).trans HR.out,(q _ _ hzS).trans HS.out.c1,(q _ _ hg1).trans K0.out,(q _ _ hg1).trans K1.out,(q _ _ hg1).trans K2.out⟩
 have CC:Hid (∀ (X0:World) (pB:Option Nat),Below W.heap.size W X0→BoxC X0 pB→Calls Tryz.prog 89 #[.agg #[.int .i64 c.cap,.slice sl c.list.length cl9,.bool c.cl],.int .i64 va] X0 fun e w'=>∃ (t1:Option Addr) (e1:Nat),e=.returned (.tuple #[.agg #[.int .i64 y.cap,.slice t1 y.list.length e1,.bool y.cl],.int .i64 KK])∧Below W.heap.size W w'∧Hid (OwnN w' W.heap.size (.slice t1 y.list.length e1) y.list)∧Hid (BoxC w' pB)∧Hid (∀ q,pB=some q→∀ b,(Value.slice t1 y.list.length e1).ownBlock=some b→b≠q)∧w'.cell? ⟨w.heap.size,2,none⟩=some (.int .i64 a')∧w'.cell? ⟨w.heap.size,4,none⟩=some (.int .i64 n)∧w'.cell? ⟨b,0,none⟩=some (.pointer (some ⟨S,0,none⟩))∧w'.cell? ⟨b,5+a',none⟩=some (.int .i64 va)∧w'.cell? ⟨S,1,none⟩=some (.slice (some ⟨g2,0,none⟩) d.chs.length c2)∧w'.cell? ⟨g2,n * 3,none⟩=some (.int .i64 c.cap)∧w'.cell? ⟨g2,n * 3+1,none⟩=some (.slice sl c.list.length cl9)∧w'.cell? ⟨g2,n * 3+2,none⟩=some (.bool c.cl)):=fun X0 pB hX hb=>(implSend_any c.cap sl c.list cl9 c.cl va X0 (RowI.mono (RowI.below HROW.out (KW.out.trans (hX.mono (by omega)))) (by have:=hX.size;omega)) hok).mono fun e w' hq=>by
  obtain ⟨u,he,hu,hb',-⟩:=hq
  have kk:Below W.heap.size W w':=hX.trans (hb'.mono hX.size)
  have hu2:OwnN w' X0.heap.size u y.list:=by rw [← hy];exact hu
  obtain ⟨t1,e1,eu,-⟩:=ownN_ints hu2
  rw [eu] at hu2 he
  refine ⟨t1,e1,?_,kk,ownLow' hu2 hX.size,hb.keep hb',fun q hq b h1=>?_,SEL.out _ kk⟩
  ·rw [he,← hy,← hKK]
  ·have a1:=(World.ownsRow.lt hu2 _ h1).1
   subst hq
   have:=(boxCS hb).z
   omega
 have kD:Below W.heap.size W W.drew:=Below.drew (Below.refl _ _)
 have hdr:∀ X:World,X.drew.heap.size=X.heap.size:=fun _=>rfl
 obtain ⟨y0,y1,y2,y3,y4,y5,y6,y7⟩:=SEL.out W (Below.refl _ _)
 have zS:S < W.heap.size:=by omega
 have zb:b < W.heap.size:=by omega
 have zg:g2 < W.heap.size:=by omega
 have HYY:=hidW hy
 have HKK:=hidW hKK
 clear hy hKK
 go_enter Tryz.func69,Tryz.ntmps69
 go_upto_region 1 with fail
 rw [HWW.out]
 go_cut [5,6] (fun s5 s6 wx=>CutH W y KK s5 s6 wx)
 case first=>
  go_region_held3 (fun w'=>w'.cell? ⟨w.heap.size,2,none⟩=some (.int .i64 a')∧w'.cell? ⟨w.heap.size,4,none⟩=some (.int .i64 n)∧w'.cell? ⟨b,0,none⟩=some (.pointer (some ⟨S,0,none⟩))∧w'.cell? ⟨b,5+a',none⟩=some (.int .i64 va)∧w'.cell? ⟨S,1,none⟩=some (.slice (some ⟨g2,0,none⟩) d.chs.length c2)∧w'.cell? ⟨g2,n * 3,none⟩=some (.int .i64 c.cap)∧w'.cell? ⟨g2,n * 3+1,none⟩=some (.slice sl c.list.length cl9)∧w'.cell? ⟨g2,n * 3+2,none⟩=some (.bool c.cl)) (first | exact SEL.out _ (by repeat' (first | with_reducible exact kD | with_reducible exact kC | with_reducible exact Below.refl _ _ | with_reducible refine Below.drew ?_ | with_reducible refine Below.alloc ?_ (by first | omega | exact Nat.le_refl _ | (simp [hdr];done) | (simp [hdr];omega)) _ | with_reducible refine Below.setCell ?_ (by first | omega | exact Nat.le_refl _ | (simp [hdr];done) | (simp [hdr];omega)) _)) | go_keep) (first | (go_at_call 89;with_reducible refine (CC.out _ _ (by repeat' (first | with_reducible exact kD | with_reducible exact kC | with_reducible exact Below.refl _ _ | with_reducible refine Below.drew ?_ | with_reducible refine Below.alloc ?_ (by first | omega | exact Nat.le_refl _ | (simp [hdr];done) | (simp [hdr];omega)) _ | with_reducible refine Below.setCell ?_ (by first | omega | exact Nat.le_refl _ | (simp [hdr];done) | (simp [hdr];omega)) _)) (by first | with_reducible exact boxCD (boxC0 _) | with_reducible exact boxC0 _ | with_reducible exact boxCN _)).mono ?_;rintro e wC ⟨t1,e1,rfl,kC,QC,HBC,HPC,yc0,yc1,yc2,yc3,yc4,yc5,yc6,yc7⟩;have zC:=kC.size;(try obtain ⟨b0',b1',b2',bf',b9⟩:=boxCS HBC.out)) | fail)
  all_goals
   go_wp2_with fail
   go_meet
   first
    | with_reducible exact cutH_new QC.out kC
    | with_reducible exact cutH_set (boxCS HBC.out) (by omega) (hidW (HPC.out _ rfl)) QC.out kC
 case rest=>
  obtain ⟨bo,t1,e1,rfl,rfl,hbo,hx,hu,hk⟩:=hcut
  obtain ⟨q0,q1,q2,qf,qz⟩:=hx
  have HU:=hidW hu
  have HK:=hidW hk
  have zk:=hk.size
  clear y0 y1 y2 y3 y4 y5 y6 y7 CC hu hk kD
  obtain ⟨y0,y1,y2,y3,y4,y5,y6,y7⟩:=SEL.out wc HK.out
  have zx:w.heap.size < wc.heap.size:=by omega
  have hne:=ext_ne wc
  have u0:=Ext.fit q0 qz
  have u1:=Ext.fit q1 qz
  have u2:=Ext.fit q2 qz
  have u3:=Ext.fit y1 zx
  have u4:=Ext.fit y2 (by omega)
  have u5:=Ext.fit y4 (by omega)
  go_wp2_with fail
  refine regionSuf wc 11 (by decide) (by kernel_rfl) (by kernel_rfl) (by kernel_rfl) (by kernel_rfl) ?_
  dsimp only [List.take,List.drop]
  repeat (go_big_quiet_step (fail))
  refine wpQuiet_nil ?_
  clear hne u0 u1 u2 u3 u4 u5
  rintro w3 ⟨X3,rfl⟩
  obtain ⟨V2,hX3⟩:∃ V2,X3.w=V2:=⟨_,rfl⟩
  have hb3:=X3.b
  rw [hX3] at hb3 ⊢
  have KV:Below w.heap.size w V2:=(KW.out.trans (HK.out.mono (by omega))).trans (hb3.mono (by omega))
  have HKV:=hidW KV
  have f0:=(KV.cell (p:=⟨g2,n * 3,none⟩) hg1).trans K0.out
  have f1:=(KV.cell (p:=⟨g2,n * 3+1,none⟩) hg1).trans K1.out
  have f2:=(KV.cell (p:=⟨g2,n * 3+2,none⟩) hg1).trans K2.out
  have f3:∀ j,V2.frozen? ⟨g2,j,none⟩=false:=fun j=>(KV.frozen (p:=⟨g2,j,none⟩) hg1).trans (KF.out j)
  have zg2:g2 < V2.heap.size:=by have:=KV.size;omega
  have HU2:=hidW (show OwnN V2 w.heap.size (.slice t1 y.list.length e1) y.list from ownLow' (ownKeep' HU.out (fun x hx=>hb3.block x (World.ownsRow.lt HU.out _ hx).2)) (by omega))
  clear hb3 hX3 X3 q0 q1 q2 qf qz y0 y1 y2 y3 y4 y5 y6 y7 KV
  go_wp2
  go_ret
  exact ⟨rfl,chP_of HO.out hb hn y _ HU2.out HKV.out hg0⟩
set_option maxHeartbeats 4000000 in
theorem shut_any (o r a bb : Int) (n b S base g2 c2 : Nat) (who pc nx st : Int) (rg : List Int) (v1 v3 : Value) (L1 L2 : List (Rec × Value)) (d : SD) (c : CD) (w : World) (h : Tn w b S who pc nx st rg) (ha : 0 ≤ a ∧ a ≤ 3) (hS : BoF S w v1 (.slice (some ⟨g2, 0, none⟩) d.chs.length c2) v3) (hO : OwnS w base v1 (.slice (some ⟨g2, 0, none⟩) d.chs.length c2) v3 L1 L2 d) (hb : base ≤ w.heap.size) (hc : d.chs[n]? = some c) (hcl : c.list.length ≤ 4) (hcn : d.chs.length ≤ 3) :
  Calls Tryz.prog 73 #[.pointer (some ⟨b,0,none⟩),.agg #[.int .i64 o,.int .i64 r,.int .i64 a,.int .i64 bb,.int .i64 n]] w fun e w'=>e=.returned (.int .i64 (closeK c.cap c.list c.cl))∧ChP w base v1 (.slice (some ⟨g2,0,none⟩) d.chs.length c2) v3 L1 L2 d n ⟨c.cap,c.list,closeB c.cap c.list c.cl⟩ w':=by
 obtain ⟨a',ha'⟩:∃ a':Nat,a=a':=⟨a.toNat,by omega⟩
 subst ha'
 have ba0:(0:Int)≤(a':Int):=by omega
 have ba1:(a':Int) < 4:=by omega
 have hn:n < d.chs.length:=(List.getElem?_eq_some_iff.1 hc).1
 have bn0:(0:Int)≤(n:Int):=by omega
 have bn1:(n:Int) < (d.chs.length:Int):=by omega
 obtain ⟨g9,c9,y9,e9,hy9,ey9,hg0,hg1,k0,k1,k2,kf⟩:=hO.chanAt hc
 injection e9 with h1 h2 h3
 injection h1 with h1
 injection h1 with h1
 subst h1 h3
 clear h2
 have HO9:OwnN w base y9.2 c.list:=by have q:=hO.c.inn n y9 hy9;rw [ey9] at q;exact q
 obtain ⟨sl,cl9,ey2,hrow⟩:=HO9.row
 rw [ey2] at k1
 have hok:c.list.length≤1073741824:=by omega
 obtain ⟨va,hva⟩:∃ v,rg.getD a' 0=v:=⟨_,rfl⟩
 have HVA:=hidW hva
 have HT:=hidW h
 have HS:=hidW hS
 have HO:=hidW hO
 have HROW:=hidW hrow
 have hz:=h.z
 have hzS:=hS.z
 have hr:=h.r a' (by omega)
 rw [hva] at hr
 have K0:=hidW k0
 have K1:=hidW k1
 have K2:=hidW k2
 have KF:=hidW kf
 have HR:=hidW hr
 obtain ⟨y,hy⟩:∃ y:CD,⟨c.cap,c.list,closeB c.cap c.list c.cl⟩=y:=⟨_,rfl⟩
 obtain ⟨KK,hKK⟩:∃ K:Int,closeK c.cap c.list c.cl=K:=⟨_,rfl⟩
 have ey:⟨c.cap,c.list,closeB c.cap c.list c.cl⟩=y:=by subst hy;first | rfl | simp only [regN,Int.toNat_natCast,hva]
 rw [ey,hKK]
 clear ey
 obtain ⟨W,hW,hx,kW,zW⟩:=Xb.new w (.int .i64 o) (.int .i64 r) (.int .i64 a') (.int .i64 bb) (.int .i64 n) 85
 have HWW:=hidW hW
 have KW:=hidW kW
 have HX:=hidW hx
 clear h hS hO hrow hW hx hva hy9 ey9 HO9 ey2 hr k0 k1 k2 kf hc
 have SEL:Hid (∀ X,Below W.heap.size W X→X.cell? ⟨w.heap.size,2,none⟩=some (.int .i64 a')∧X.cell? ⟨w.heap.size,4,none⟩=some (.int .i64 n)∧X.cell? ⟨b,0,none⟩=some (.pointer (some ⟨S,0,none⟩))∧X.cell? ⟨b,5+a',none⟩=some (.int .i64 va)∧X.cell? ⟨S,1,none⟩=some (.slice (some ⟨g2,0,none⟩) d.chs.length c2)∧X.cell? ⟨g2,n * 3,none⟩=some (.int .i64 c.cap)∧X.cell? ⟨g2,n * 3+1,none⟩=some (.slice sl c.list.length cl9)∧X.cell? ⟨g2,n * 3+2,none⟩=some (.bool c.cl)):=fun X hX=>by
  have kX:Below w.heap.size w X:=KW.out.trans (hX.mono (by omega))
  have x:=HX.out.below hX zW
  have q:∀ g j,g < w.heap.size→X.cell? ⟨g,j,none⟩=w.cell? ⟨g,j,none⟩:=fun g j hg=>kX.cell (p:=⟨g,j,none⟩) hg
  exact ⟨x.c2,x.c4,(q _ _ hz).trans HT.out.c0,(q _ _ hz).trans HR.out,(q _ _ hzS).trans HS.out.c1,(q _ _ hg1).trans K0.out,(q _ _ hg1).trans K1.out,(q _ _ hg1).trans K2.out⟩
 have CC:Hid (∀ (X0:World) (pB:Option Nat),Below W.heap.size W X0→BoxC X0 pB→Calls Tryz.prog 92 #[.agg #[.int .i64 c.cap,.slice sl c.list.length cl9,.bool c.cl]] X0 fun e w'=>∃ (t1:Option Addr) (e1:Nat),e=.returned (.tuple #[.agg #[.int .i64 y.cap,.slice t1 y.list.length e1,.bool y.cl],.int .i64 KK])∧Below W.heap.size W w'∧Hid (OwnN w' W.heap.size (.slice t1 y.list.length e1) y.list)∧Hid (BoxC w' pB)∧Hid (∀ q,pB=some q→∀ b,(Value.slice t1 y.list.length e1).ownBlock=some b→b≠q)∧w'.cell? ⟨w.heap.size,2,none⟩=some (.int .i64 a')∧w'.cell? ⟨w.heap.size,4,none⟩=some (.int .i64 n)∧w'.cell? ⟨b,0,none⟩=some (.pointer (some ⟨S,0,none⟩))∧w'.cell? ⟨b,5+a',none⟩=some (.int .i64 va)∧w'.cell? ⟨S,1,none⟩=some (.slice (some ⟨g2,0,none⟩) d.chs.length c2)∧w'.cell? ⟨g2,n * 3,none⟩=some (.int .i64 c.cap)∧w'.cell? ⟨g2,n * 3+1,none⟩=some (.slice sl c.list.length cl9)∧w'.cell? ⟨g2,n * 3+2,none⟩=some (.bool c.cl)):=fun X0 pB hX hb=>(implClose_any c.cap sl c.list cl9 c.cl X0 (RowI.mono (RowI.below HROW.out (KW.out.trans (hX.mono (by omega)))) (by have:=hX.size;omega)) hok).mono fun e w' hq=>by
  obtain ⟨u,he,hu,hb',-⟩:=hq
  have kk:Below W.heap.size W w':=hX.trans (hb'.mono hX.size)
  have hu2:OwnN w' X0.heap.size u y.list:=by rw [← hy];exact hu
  obtain ⟨t1,e1,eu,-⟩:=ownN_ints hu2
  rw [eu] at hu2 he
  refine ⟨t1,e1,?_,kk,ownLow' hu2 hX.size,hb.keep hb',fun q hq b h1=>?_,SEL.out _ kk⟩
  ·rw [he,← hy,← hKK]
  ·have a1:=(World.ownsRow.lt hu2 _ h1).1
   subst hq
   have:=(boxCS hb).z
   omega
 have kD:Below W.heap.size W W.drew:=Below.drew (Below.refl _ _)
 have hdr:∀ X:World,X.drew.heap.size=X.heap.size:=fun _=>rfl
 obtain ⟨y0,y1,y2,y3,y4,y5,y6,y7⟩:=SEL.out W (Below.refl _ _)
 have zS:S < W.heap.size:=by omega
 have zb:b < W.heap.size:=by omega
 have zg:g2 < W.heap.size:=by omega
 have HYY:=hidW hy
 have HKK:=hidW hKK
 clear hy hKK
 go_enter Tryz.func73,Tryz.ntmps73
 go_upto_region 1 with fail
 rw [HWW.out]
 go_cut [5,6] (fun s5 s6 wx=>CutH W y KK s5 s6 wx)
 case first=>
  go_region_held3 (fun w'=>w'.cell? ⟨w.heap.size,2,none⟩=some (.int .i64 a')∧w'.cell? ⟨w.heap.size,4,none⟩=some (.int .i64 n)∧w'.cell? ⟨b,0,none⟩=some (.pointer (some ⟨S,0,none⟩))∧w'.cell? ⟨b,5+a',none⟩=some (.int .i64 va)∧w'.cell? ⟨S,1,none⟩=some (.slice (some ⟨g2,0,none⟩) d.chs.length c2)∧w'.cell? ⟨g2,n * 3,none⟩=some (.int .i64 c.cap)∧w'.cell? ⟨g2,n * 3+1,none⟩=some (.slice sl c.list.length cl9)∧w'.cell? ⟨g2,n * 3+2,none⟩=some (.bool c.cl)) (first | exact SEL.out _ (by repeat' (first | with_reducible exact kD | with_reducible exact kC | with_reducible exact Below.refl _ _ | with_reducible refine Below.drew ?_ | with_reducible refine Below.alloc ?_ (by first | omega | exact Nat.le_refl _ | (simp [hdr];done) | (simp [hdr];omega)) _ | with_reducible refine Below.setCell ?_ (by first | omega | exact Nat.le_refl _ | (simp [hdr];done) | (simp [hdr];omega)) _)) | go_keep) (first | (go_at_call 92;with_reducible refine (CC.out _ _ (by repeat' (first | with_reducible exact kD | with_reducible exact kC | with_reducible exact Below.refl _ _ | with_reducible refine Below.drew ?_ | with_reducible refine Below.alloc ?_ (by first | omega | exact Nat.le_refl _ | (simp [hdr];done) | (simp [hdr];omega)) _ | with_reducible refine Below.setCell ?_ (by first | omega | exact Nat.le_refl _ | (simp [hdr];done) | (simp [hdr];omega)) _)) (by first | with_reducible exact boxCD (boxC0 _) | with_reducible exact boxC0 _ | with_reducible exact boxCN _)).mono ?_;rintro e wC ⟨t1,e1,rfl,kC,QC,HBC,HPC,yc0,yc1,yc2,yc3,yc4,yc5,yc6,yc7⟩;have zC:=kC.size;(try obtain ⟨b0',b1',b2',bf',b9⟩:=boxCS HBC.out)) | fail)
  all_goals
   go_wp2_with fail
   go_meet
   first
    | with_reducible exact cutH_new QC.out kC
    | with_reducible exact cutH_set (boxCS HBC.out) (by omega) (hidW (HPC.out _ rfl)) QC.out kC
 case rest=>
  obtain ⟨bo,t1,e1,rfl,rfl,hbo,hx,hu,hk⟩:=hcut
  obtain ⟨q0,q1,q2,qf,qz⟩:=hx
  have HU:=hidW hu
  have HK:=hidW hk
  have zk:=hk.size
  clear y0 y1 y2 y3 y4 y5 y6 y7 CC hu hk kD
  obtain ⟨y0,y1,y2,y3,y4,y5,y6,y7⟩:=SEL.out wc HK.out
  have zx:w.heap.size < wc.heap.size:=by omega
  have hne:=ext_ne wc
  have u0:=Ext.fit q0 qz
  have u1:=Ext.fit q1 qz
  have u2:=Ext.fit q2 qz
  have u3:=Ext.fit y1 zx
  have u4:=Ext.fit y2 (by omega)
  have u5:=Ext.fit y4 (by omega)
  go_wp2_with fail
  refine regionSuf wc 11 (by decide) (by kernel_rfl) (by kernel_rfl) (by kernel_rfl) (by kernel_rfl) ?_
  dsimp only [List.take,List.drop]
  repeat (go_big_quiet_step (fail))
  refine wpQuiet_nil ?_
  clear hne u0 u1 u2 u3 u4 u5
  rintro w3 ⟨X3,rfl⟩
  obtain ⟨V2,hX3⟩:∃ V2,X3.w=V2:=⟨_,rfl⟩
  have hb3:=X3.b
  rw [hX3] at hb3 ⊢
  have KV:Below w.heap.size w V2:=(KW.out.trans (HK.out.mono (by omega))).trans (hb3.mono (by omega))
  have HKV:=hidW KV
  have f0:=(KV.cell (p:=⟨g2,n * 3,none⟩) hg1).trans K0.out
  have f1:=(KV.cell (p:=⟨g2,n * 3+1,none⟩) hg1).trans K1.out
  have f2:=(KV.cell (p:=⟨g2,n * 3+2,none⟩) hg1).trans K2.out
  have f3:∀ j,V2.frozen? ⟨g2,j,none⟩=false:=fun j=>(KV.frozen (p:=⟨g2,j,none⟩) hg1).trans (KF.out j)
  have zg2:g2 < V2.heap.size:=by have:=KV.size;omega
  have HU2:=hidW (show OwnN V2 w.heap.size (.slice t1 y.list.length e1) y.list from ownLow' (ownKeep' HU.out (fun x hx=>hb3.block x (World.ownsRow.lt HU.out _ hx).2)) (by omega))
  clear hb3 hX3 X3 q0 q1 q2 qf qz y0 y1 y2 y3 y4 y5 y6 y7 KV
  go_wp2
  go_ret
  exact ⟨rfl,chP_of HO.out hb hn y _ HU2.out HKV.out hg0⟩
set_option maxHeartbeats 4000000 in
theorem takeFrom_any (n b S base g2 c2 : Nat) (who pc nx st : Int) (rg : List Int) (v1 v3 : Value) (L1 L2 : List (Rec × Value)) (d : SD) (c : CD) (w : World) (h : Tn w b S who pc nx st rg) (hS : BoF S w v1 (.slice (some ⟨g2, 0, none⟩) d.chs.length c2) v3) (hO : OwnS w base v1 (.slice (some ⟨g2, 0, none⟩) d.chs.length c2) v3 L1 L2 d) (hb : base ≤ w.heap.size) (hc : d.chs[n]? = some c) (hcl : c.list.length ≤ 4) (hcn : d.chs.length ≤ 3) :
  Calls Tryz.prog 90 #[.pointer (some ⟨b,0,none⟩),.int .i64 n] w fun e w'=>e=.returned (.tuple #[.int .i64 (takeV c.cap c.list),.int .i64 (takeK c.cap c.list c.cl)])∧ChP w base v1 (.slice (some ⟨g2,0,none⟩) d.chs.length c2) v3 L1 L2 d n ⟨c.cap,takeL c.cap c.list,c.cl⟩ w':=by
 have hn:n < d.chs.length:=(List.getElem?_eq_some_iff.1 hc).1
 have bn0:(0:Int)≤(n:Int):=by omega
 have bn1:(n:Int) < (d.chs.length:Int):=by omega
 obtain ⟨g9,c9,y9,e9,hy9,ey9,hg0,hg1,k0,k1,k2,kf⟩:=hO.chanAt hc
 injection e9 with h1 h2 h3
 injection h1 with h1
 injection h1 with h1
 subst h1 h3
 clear h2
 have HO9:OwnN w base y9.2 c.list:=by have q:=hO.c.inn n y9 hy9;rw [ey9] at q;exact q
 obtain ⟨sl,cl9,ey2,hrow⟩:=HO9.row
 rw [ey2] at k1
 have hok:c.list.length≤1073741824:=by omega
 have HT:=hidW h
 have HS:=hidW hS
 have HO:=hidW hO
 have hz:=h.z
 have hzS:=hS.z
 have K0:=hidW k0
 have K1:=hidW k1
 have K2:=hidW k2
 have KF:=hidW kf
 have CC:=hidW (implTake_any c.cap sl c.list cl9 c.cl w hrow hok)
 obtain ⟨tv,htv⟩:∃ v,takeV c.cap c.list=v:=⟨_,rfl⟩
 obtain ⟨tk,htk⟩:∃ v,takeK c.cap c.list c.cl=v:=⟨_,rfl⟩
 obtain ⟨tl,htl⟩:∃ v,takeL c.cap c.list=v:=⟨_,rfl⟩
 unfold TakePost at CC
 rw [htv,htk,htl] at CC
 rw [htv,htk,htl]
 have c0:=h.c0
 have s1:=hS.c1
 clear h hS hO hrow hy9 ey9 HO9 ey2 kf hc htv htk htl
 go_enter Tryz.func90,Tryz.ntmps90
 go_wp2_with fail
 refine Calls.mono CC.out ?_
 rintro e w1 ⟨u,rfl,hu,hb1,-⟩
 obtain ⟨t1,e1,rfl,-⟩:=ownN_ints hu
 have HU:=hidW hu
 have B1:=hidW hb1
 have z1:=hb1.size
 clear hu c0 s1 k0 k1 k2 CC
 obtain ⟨Y,hY⟩:∃ Y,w1.alloc (.cells #[.int .i64 c.cap,.slice t1 tl.length e1,.bool c.cl] 65)=Y:=⟨_,rfl⟩
 have kY:Below w1.heap.size w1 Y:=by rw [← hY];exact (Below.refl _ _).alloc (Nat.le_refl _) _
 have q0:Y.cell? ⟨w1.heap.size,0,none⟩=some (.int .i64 c.cap):=by rw [← hY];simp [go_sem]
 have q1:Y.cell? ⟨w1.heap.size,1,none⟩=some (.slice t1 tl.length e1):=by rw [← hY];simp [go_sem]
 have q2:Y.cell? ⟨w1.heap.size,2,none⟩=some (.bool c.cl):=by rw [← hY];simp [go_sem]
 have qz:w1.heap.size < Y.heap.size:=by rw [← hY];simp
 have KY:Below w.heap.size w Y:=B1.out.trans (kY.mono (by omega))
 have HKY:=hidW KY
 have HUY:=hidW (show OwnN Y w.heap.size (.slice t1 tl.length e1) tl from ownKeep' HU.out (fun x hx=>kY.block x (World.ownsRow.lt HU.out _ hx).2))
 have HY:=hidW hY
 have y0:=(KY.cell (p:=⟨b,0,none⟩) hz).trans HT.out.c0
 have y1:=(KY.cell (p:=⟨S,1,none⟩) hzS).trans HS.out.c1
 clear hY kY KY hb1
 go_upto_region 2 with fail
 rw [HY.out]
 have zb:b < Y.heap.size:=by omega
 have zS:S < Y.heap.size:=by omega
 have hne:=ext_ne Y
 have u0:=Ext.fit q0 qz
 have u1:=Ext.fit q1 qz
 have u2:=Ext.fit q2 qz
 have u4:=Ext.fit y0 zb
 have u5:=Ext.fit y1 zS
 refine regionSuf Y 10 (by decide) (by kernel_rfl) (by kernel_rfl) (by kernel_rfl) (by kernel_rfl) ?_
 dsimp only [List.take,List.drop]
 repeat (go_big_quiet_step (fail))
 refine wpQuiet_nil ?_
 clear hne u0 u1 u2 u4 u5
 rintro w3 ⟨X3,rfl⟩
 obtain ⟨V2,hX3⟩:∃ V2,X3.w=V2:=⟨_,rfl⟩
 have hb3:=X3.b
 rw [hX3] at hb3 ⊢
 have KV:Below w.heap.size w V2:=HKY.out.trans (hb3.mono (by omega))
 have HKV:=hidW KV
 have f0:=(KV.cell (p:=⟨g2,n * 3,none⟩) hg1).trans K0.out
 have f1:=(KV.cell (p:=⟨g2,n * 3+1,none⟩) hg1).trans K1.out
 have f2:=(KV.cell (p:=⟨g2,n * 3+2,none⟩) hg1).trans K2.out
 have f3:∀ j,V2.frozen? ⟨g2,j,none⟩=false:=fun j=>(KV.frozen (p:=⟨g2,j,none⟩) hg1).trans (KF.out j)
 have zg2:g2 < V2.heap.size:=by have:=KV.size;omega
 have HU2:=hidW (show OwnN V2 w.heap.size (.slice t1 tl.length e1) tl from ownKeep' HUY.out (fun x hx=>hb3.block x (World.ownsRow.lt HUY.out _ hx).2))
 clear hb3 hX3 X3 q0 q1 q2 qz y0 y1 KV
 go_wp2
 exact bodyPost_ret (v:=.tuple #[.int .i64 tv,.int .i64 tk]) (by simp [results,Tryz.results90,go_sem]) rfl ⟨rfl,chP_of HO.out hb hn ⟨c.cap,tl,c.cl⟩ _ HU2.out HKV.out hg0⟩
end
section
set_option linter.unusedSimpArgs false
set_option linter.unusedVariables false
set_option maxRecDepth 100000
open Go.RowKit
structure DR where
 code:Int
 nx:Int
 st:Int
 rg:List Int
 chs:List CD
 tr:List ND
def doM (t:TD) (x:I5) (chs:List CD) (tr:List ND) (k:Nat):DR:=
 if x.o=1 then ⟨0,t.pc+1,0,putN t.regs x.r x.n,chs,tr⟩
 else if x.o=2 then ⟨0,t.pc+1,0,putN t.regs x.r (IntKind.i64.wrap (regN t.regs x.a+regN t.regs x.b)),chs,tr⟩
 else if x.o=3 then ⟨0,t.pc+1,0,putN t.regs x.r (IntKind.i64.wrap (regN t.regs x.a - regN t.regs x.b)),chs,tr⟩
 else if x.o=4 then ⟨0,t.pc+1,0,putN t.regs x.r (bitN (decide (regN t.regs x.a < regN t.regs x.b))),chs,tr⟩
 else if x.o=10 then ⟨0,t.pc+1,0,t.regs,chs,tr++[⟨k,regN t.regs x.a⟩]⟩
 else if x.o=11 then ⟨0,x.n,0,t.regs,chs,tr⟩
 else if x.o=12 then ⟨0,if regN t.regs x.a=0 then x.n else t.pc+1,0,t.regs,chs,tr⟩
 else if x.o=13 then ⟨0,t.pc,1,t.regs,chs,tr⟩
 else ⟨chanH x.o (chs.getD x.n.toNat zc),t.pc+1,0,chanR x.o t.regs (chs.getD x.n.toNat zc) x.r.toNat x.b.toNat,chs.set x.n.toNat (chanC x.o (chs.getD x.n.toNat zc) (regN t.regs x.a)),tr⟩
def settleT (t:TD) (b:Nat) (o:DR):TD:=if o.code=2∨¬ (0≤o.nx∧o.nx < b) then ⟨t.pc,o.rg,2⟩ else ⟨o.nx,o.rg,o.st⟩
theorem settle_move {t:TD} {b:Nat} {o:DR} (hc:o.code≠2) (hs:o.st=0):settleT t b o=moveT t b o.rg o.nx:=by
 unfold settleT moveT
 by_cases h:0≤o.nx∧o.nx < b
 ·rw [if_neg (fun q=>by rcases q with q | q;exact hc q;exact q h),if_pos h,hs]
 ·rw [if_pos (.inr h),if_neg h]
theorem chan_same {c:CD} {chs:List CD} {n:Nat} (h:chs[n]? =some c):chs.set n c=chs:=by
 apply List.ext_getElem?
 intro j
 by_cases e:j=n
 ·subst e
  rw [List.getElem?_set_self (List.getElem?_eq_some_iff.1 h).1,h]
 ·rw [List.getElem?_set_ne (Ne.symm e)]
theorem chs_at {c:CD} {chs:List CD} {n:Nat} (h:chs[n]? =some c):chs.getD n zc=c:=by rw [List.getD_eq_getElem?_getD,h];rfl
theorem chanC_wait {o:Int} {c:CD} {v:Int} (hok:okC c.cap c.list.length=true) (hop:o=5∨o=6∨o=7∨o=8∨o=9) (h:chanH o c=1):chanC o c v=c∧(o=5∨o=6):=by
 obtain ⟨cap,l,cl⟩:=c
 simp only at hok
 rcases hop with rfl | rfl | rfl | rfl | rfl
 ·have hk:sendK cap l cl=1:=by simpa [chanH] using h
  refine ⟨?_,.inl rfl⟩
  have q:¬ (okC cap l.length=true∧cl=false∧(l.length:Int) < cap):=fun q=>by
   unfold sendK at hk
   rw [if_pos ⟨q.1,q.2.1⟩,if_pos q.2.2] at hk
   cases hk
  simp [chanC,sendL,q]
 ·have hk:takeK cap l cl=1:=by
   by_cases e:takeK cap l cl=1
   ·exact e
   ·simp [chanH,e] at h
  refine ⟨?_,.inr rfl⟩
  unfold takeK at hk
  rw [if_pos hok] at hk
  by_cases e:l=[]
  ·subst e
   simp [chanC,takeL]
  ·rw [if_neg e] at hk
   cases hk
 ·by_cases e:sendK cap l cl=2<;>simp [chanH,e] at h
 ·simp [chanH] at h
 ·exfalso
  have:closeK cap l cl=1:=by simpa [chanH] using h
  unfold closeK at this
  split at this<;>cases this
/- a step is what a doing makes, settled -/
theorem doM_step (b : Nat) (pc : Int) (rg : List Int) (o : Int) (r a bb n : Nat) (n' : Int) (chs : List CD) (tr : List ND) (k : Nat) (h0 : 0 ≤ pc) (h1 : pc < b) (hop : 1 ≤ o ∧ o ≤ 13) (hn : 5 ≤ o → o ≤ 9 → n' = n) (hch : 5 ≤ o → o ≤ 9 → ∃ c, chs[n]? = some c ∧ okC c.cap c.list.length = true) (hnr : ¬ (o = 10 ∧ tr.length = 4000)) :
  stepO b ⟨pc,rg,0⟩ ⟨o,r,a,bb,n'⟩ chs tr k=if (doM ⟨pc,rg,0⟩ ⟨o,r,a,bb,n'⟩ chs tr k).code=1 then ⟨⟨pc,rg,0⟩,chs,tr,4⟩ else ⟨settleT ⟨pc,rg,0⟩ b (doM ⟨pc,rg,0⟩ ⟨o,r,a,bb,n'⟩ chs tr k),(doM ⟨pc,rg,0⟩ ⟨o,r,a,bb,n'⟩ chs tr k).chs,(doM ⟨pc,rg,0⟩ ⟨o,r,a,bb,n'⟩ chs tr k).tr,0⟩:=by
 by_cases h5:5≤o∧o≤9
 ·have hop5:o=5∨o=6∨o=7∨o=8∨o=9:=by omega
  obtain ⟨c,hc,hok⟩:=hch h5.1 h5.2
  have en:=hn h5.1 h5.2
  subst en
  rw [stepO_chan b ⟨pc,rg,0⟩ o r a bb n chs tr k c hc hok hop5]
  have e:doM ⟨pc,rg,0⟩ ⟨o,r,a,bb,n⟩ chs tr k=⟨chanH o c,pc+1,0,chanR o rg c r bb,chs.set n (chanC o c (rg.getD a 0)),tr⟩:=by
   have e1:chs.getD n zc=c:=by rw [List.getD_eq_getElem?_getD,hc];rfl
   unfold doM
   simp only [Int.toNat_natCast,regN,e1]
   rw [if_neg (by omega),if_neg (by omega),if_neg (by omega),if_neg (by omega),if_neg (by omega),if_neg (by omega),if_neg (by omega),if_neg (by omega)]
  rw [e]
  simp only
  rcases chanH_three hok hop5 with h | h | ⟨h,h9⟩
  ·rw [h,if_neg (by decide),if_neg (by decide),if_neg (by decide)]
   rw [settle_move (by simp) rfl]
  ·rw [h,if_pos rfl,if_pos rfl]
  ·rw [h,if_neg (by decide),if_pos rfl,if_neg (by decide)]
   have e2:=chanR_fault (rg:=rg) (r:=r) (b:=bb) h9 h
   simp [settleT,haltT,e2]
 ·have h6:o=1∨o=2∨o=3∨o=4∨o=10∨o=11∨o=12∨o=13:=by omega
  clear hn hch
  rcases h6 with rfl | rfl | rfl | rfl | rfl | rfl | rfl | rfl
  ·rw [settle_move (by simp [doM]) (by simp [doM])];simp [stepO,doM]
  ·rw [settle_move (by simp [doM]) (by simp [doM])];simp [stepO,doM]
  ·rw [settle_move (by simp [doM]) (by simp [doM])];simp [stepO,doM]
  ·rw [settle_move (by simp [doM]) (by simp [doM])];simp [stepO,doM]
  ·have:¬ tr.length=4000:=fun e=>hnr ⟨rfl,e⟩
   rw [settle_move (by simp [doM]) (by simp [doM])];simp [stepO,doM,this]
  ·rw [settle_move (by simp [doM]) (by simp [doM])];simp [stepO,doM]
  ·rw [settle_move (by simp [doM]) (by simp [doM])];simp [stepO,doM]
  ·simp [stepO,doM,settleT,haltT,h0,h1]
end
section
set_option linter.unusedSimpArgs false
set_option linter.unusedVariables false
set_option maxRecDepth 100000
open Go.RowKit
def BxU (w:World) (b:Nat):Prop:=∃ cs f,w.heap[b]? =some (.cells cs 90 f)
theorem own_bxU {w:World} {base size n b:Nat} {e:TypeId} {v:Value} {xs:List Value} (h:w.ownsRow base e size v n xs) (he:e≠90) (hb:BxU w b):v.ownBlock≠some b:=by
 obtain ⟨cs,f,c⟩:=hb
 intro hk
 rcases h.2 with ⟨rfl,-⟩ | ⟨g,cap,cur,rfl,-,c',-⟩
 ·cases hk
 ·simp only [Value.ownBlock,Option.some.injEq] at hk
  subst hk
  rw [c] at c'
  injection c' with c'
  injection c' with _ c'
  exact he c'.symm
theorem BxU.set {w:World} {b g o:Nat} {v:Value} (h:BxU w b):BxU (w.setCell ⟨g,o,none⟩ v) b:=by
 obtain ⟨cs,f,c⟩:=h
 by_cases e:b=g
 ·subst e
  exact ⟨_,f,heap_setS c⟩
 ·exact ⟨cs,f,(Below.heap_setCell _ _ _ b e).trans c⟩
theorem BxU.same {w w':World} {b:Nat} (h:BxU w b) (e:w'.heap[b]? =w.heap[b]?):BxU w' b:=by
 obtain ⟨cs,f,c⟩:=h
 exact ⟨cs,f,e.trans c⟩
theorem OwnS.hitU {w:World} {base b:Nat} {v1 v2 v3:Value} {L1 L2:List (Rec×Value)} {d:SD} (h:OwnS w base v1 v2 v3 L1 L2 d) (ht:BxU w b):¬ HitS v1 v2 v3 L1 L2 b:=by
 rintro ((hk | ⟨i,x,hx,hk⟩) | (hk | ⟨i,x,hx,hk⟩) | hk)
 ·exact own_bxU h.t.row (by decide) ht hk
 ·exact own_bxU (h.t.inn i x hx) (by decide) ht hk
 ·exact own_bxU h.c.row (by decide) ht hk
 ·exact own_bxU (h.c.inn i x hx) (by decide) ht hk
 ·exact own_bxU h.n (by decide) ht hk
structure Rd (w:World) (b S base:Nat) (v1 v2 v3:Value) (L1 L2:List (Rec×Value)) (d:SD) (who pc nx st:Int) (rg:List Int):Prop where
 t:Tn w b S who pc nx st rg
 s:BoF S w v1 v2 v3
 bs:BxS w S
 bt:BxU w b
 o:OwnS w base v1 v2 v3 L1 L2 d
 ne:b≠S
 hb:base≤w.heap.size
 hS:base≤S
 hbb:base≤b
structure DoQ (w:World) (b S base:Nat) (v1 v2 v3:Value) (L1 L2:List (Rec×Value)) (d:SD) (who pc nx st:Int) (rg:List Int) (chs:List CD) (tr:List ND) (s4:Option Addr) (n4 c4:Nat) (L2':List (Rec×Value)) (w':World):Prop where
 r:Rd w' b S base v1 v2 (.slice s4 n4 c4) L1 L2' ⟨d.ths,chs,tr⟩ who pc nx st rg
 h:∀ q,HitS v1 v2 (.slice s4 n4 c4) L1 L2' q→HitS v1 v2 v3 L1 L2 q∨w.heap.size≤q
 f:∀ q,q < w.heap.size→q≠b→¬ HitS v1 v2 v3 L1 L2 q→q≠S→w'.heap[q]? =w.heap[q]?
 b:Below base w w'
def DoP (w:World) (b S base:Nat) (v1 v2 v3:Value) (L1 L2:List (Rec×Value)) (d:SD) (who pc:Int) (o:DR) (e:Ending) (w':World):Prop:=
 e=.returned (.int .i64 o.code)∧∃ s4 n4 c4 L2',DoQ w b S base v1 v2 v3 L1 L2 d who pc o.nx o.st o.rg o.chs o.tr s4 n4 c4 L2' w'
/- stores into the turn's own box alone -/
theorem Rd.put {w W2 w':World} {b S base n3 c3:Nat} {s3:Option Addr} {v1 v2:Value} {L1 L2:List (Rec×Value)} {d:SD} {who pc nx st nx' st':Int} {rg rg':List Int} (h:Rd w b S base v1 v2 (.slice s3 n3 c3) L1 L2 d who pc nx st rg) (hW:∀ q,q≠b→W2.heap[q]? =w.heap[q]?) (hs:W2.heap.size=w.heap.size) (hu:BxU W2 b) (hB:Below base w W2) (ht:Tn W2 b S who pc nx' st' rg') (k:Below w.heap.size W2 w'):DoQ w b S base v1 v2 (.slice s3 n3 c3) L1 L2 d who pc nx' st' rg' d.chs d.tr s3 n3 c3 L2 w':=by
 have hz:=h.t.z
 have hzS:=h.s.z
 have hne:=h.ne
 have e:∀ q,q < w.heap.size→q≠b→w'.heap[q]? =w.heap[q]? :=fun q h1 h2=>(k.block q h1).trans (hW q h2)
 have ks:=k.size
 refine ⟨⟨ht.below k hz,h.s.keep (e S hzS (Ne.symm hne)) (by omega),h.bs.same (e S hzS (Ne.symm hne)),hu.same (k.block b hz),?_,hne,by have:=h.hb;omega,h.hS,h.hbb⟩,fun q hq=>.inl hq,fun q h1 h2 _ _=>e q h1 h2,hB.trans (k.mono h.hb)⟩
 exact h.o.keepB (fun q hq=>e q (h.o.hit hq).2 (fun e=>h.o.hitU h.bt (by rw [← e];exact hq)))
/- a channel put in its place -/
theorem Rd.chan {w w':World} {b S base n3 c3 n:Nat} {s3:Option Addr} {v1 v2:Value} {L1 L2:List (Rec×Value)} {d:SD} {who pc nx st:Int} {rg:List Int} {y:CD} (h:Rd w b S base v1 v2 (.slice s3 n3 c3) L1 L2 d who pc nx st rg) (k:ChP w base v1 v2 (.slice s3 n3 c3) L1 L2 d n y w'):∃ L2',DoQ w b S base v1 v2 (.slice s3 n3 c3) L1 L2 d who pc nx st rg (d.chs.set n y) d.tr s3 n3 c3 L2' w':=by
 obtain ⟨⟨L2',o,hh⟩,f,k⟩:=k
 have hz:=h.t.z
 have hzS:=h.s.z
 have e:∀ q,q < w.heap.size→¬ HitS v1 v2 (.slice s3 n3 c3) L1 L2 q→w'.heap[q]? =w.heap[q]? :=fun q h1 h2=>f q h1 (fun e=>h2 (.inr (.inl (.inl e))))
 have ks:=k.size
 have eb:=e b hz (h.o.hitU h.bt)
 have eS:=e S hzS (h.o.hitB h.bs)
 refine ⟨L2',⟨h.t.same eb ks,h.s.keep eS ks,h.bs.same eS,h.bt.same eb,o,h.ne,by have:=h.hb;omega,h.hS,h.hbb⟩,fun q hq=>?_,fun q h1 _ h3 _=>e q h1 h3,k⟩
 rcases hq with hq | hq | hq
 ·exact .inl (.inl hq)
 ·exact (hh q hq).imp (fun a=>.inr (.inl a)) id
 ·exact .inl (.inr (.inr hq))
/- one behind the other -/
theorem DoQ.then {w w1 w2:World} {b S base n3 c3 n4 c4 n5 c5:Nat} {s3 s4 s5:Option Addr} {v1 v2:Value} {L1 L2 L2' L3:List (Rec×Value)} {d:SD} {who pc nx st nx' st':Int} {rg rg':List Int} {chs chs':List CD} {tr tr':List ND} (h:DoQ w b S base v1 v2 (.slice s3 n3 c3) L1 L2 d who pc nx st rg chs tr s4 n4 c4 L2' w1) (k:DoQ w1 b S base v1 v2 (.slice s4 n4 c4) L1 L2' ⟨d.ths,chs,tr⟩ who pc nx' st' rg' chs' tr' s5 n5 c5 L3 w2):DoQ w b S base v1 v2 (.slice s3 n3 c3) L1 L2 d who pc nx' st' rg' chs' tr' s5 n5 c5 L3 w2:=by
 have hs:=h.b.size
 refine ⟨k.r,fun q hq=>?_,fun q h1 h2 h3 h4=>(k.f q (by omega) h2 (fun hq=>?_) h4).trans (h.f q h1 h2 h3 h4),h.b.trans k.b⟩
 ·rcases k.h q hq with h1 | h1
  ·exact h.h q h1
  ·exact .inr (by omega)
 ·rcases h.h q hq with h5 | h5
  ·exact h3 h5
  ·omega
theorem do1 (o r a bb n : Int) (b S base n3 c3 : Nat) (s3 : Option Addr) (v1 v2 : Value) (L1 L2 : List (Rec × Value)) (d : SD) (who : Nat) (pc : Int) (rg : List Int) (w : World) (h : Rd w b S base v1 v2 (.slice s3 n3 c3) L1 L2 d who pc (pc + 1) 0 rg) (hr : 0 ≤ r ∧ r ≤ 3) (ha : 0 ≤ a ∧ a ≤ 3) (hb : 0 ≤ bb ∧ bb ≤ 3) :
  Calls Tryz.prog 65 #[.pointer (some ⟨b,0,none⟩),.agg #[.int .i64 1,.int .i64 r,.int .i64 a,.int .i64 bb,.int .i64 n]] w fun e w'=>DoP w b S base v1 v2 (.slice s3 n3 c3) L1 L2 d who pc (doM ⟨pc,rg,0⟩ ⟨1,r,a,bb,n⟩ d.chs d.tr who) e w':=by
 have hrn:r.toNat < 4:=by omega
 have hbn:bb.toNat < 4:=by omega
 refine (set_any 1 r a bb n b S who pc (pc+1) 0 rg w h.t hr ha hb).mono ?_
 rintro e w' ⟨rfl,k⟩
 refine ⟨by simp [doM],s3,n3,c3,L2,?_⟩
 have q:=h.put (W2:=(w.setCell ⟨b,5+r.toNat,none⟩ (.int .i64 (n)))) (fun q hq=>Below.heap_setCell _ _ _ q hq) (by simp) h.bt.set ((Below.refl _ _).setCell (p:=⟨b,_,none⟩) h.hbb _) (h.t.reg _ hrn _) k
 simpa [doM,putN] using q
theorem do2 (o r a bb n : Int) (b S base n3 c3 : Nat) (s3 : Option Addr) (v1 v2 : Value) (L1 L2 : List (Rec × Value)) (d : SD) (who : Nat) (pc : Int) (rg : List Int) (w : World) (h : Rd w b S base v1 v2 (.slice s3 n3 c3) L1 L2 d who pc (pc + 1) 0 rg) (hr : 0 ≤ r ∧ r ≤ 3) (ha : 0 ≤ a ∧ a ≤ 3) (hb : 0 ≤ bb ∧ bb ≤ 3) :
  Calls Tryz.prog 66 #[.pointer (some ⟨b,0,none⟩),.agg #[.int .i64 2,.int .i64 r,.int .i64 a,.int .i64 bb,.int .i64 n]] w fun e w'=>DoP w b S base v1 v2 (.slice s3 n3 c3) L1 L2 d who pc (doM ⟨pc,rg,0⟩ ⟨2,r,a,bb,n⟩ d.chs d.tr who) e w':=by
 have hrn:r.toNat < 4:=by omega
 have hbn:bb.toNat < 4:=by omega
 refine (add_any 2 r a bb n b S who pc (pc+1) 0 rg w h.t hr ha hb).mono ?_
 rintro e w' ⟨rfl,k⟩
 refine ⟨by simp [doM],s3,n3,c3,L2,?_⟩
 have q:=h.put (W2:=(w.setCell ⟨b,5+r.toNat,none⟩ (.int .i64 (IntKind.i64.wrap (regN rg a+regN rg bb))))) (fun q hq=>Below.heap_setCell _ _ _ q hq) (by simp) h.bt.set ((Below.refl _ _).setCell (p:=⟨b,_,none⟩) h.hbb _) (h.t.reg _ hrn _) k
 simpa [doM,putN] using q
theorem do3 (o r a bb n : Int) (b S base n3 c3 : Nat) (s3 : Option Addr) (v1 v2 : Value) (L1 L2 : List (Rec × Value)) (d : SD) (who : Nat) (pc : Int) (rg : List Int) (w : World) (h : Rd w b S base v1 v2 (.slice s3 n3 c3) L1 L2 d who pc (pc + 1) 0 rg) (hr : 0 ≤ r ∧ r ≤ 3) (ha : 0 ≤ a ∧ a ≤ 3) (hb : 0 ≤ bb ∧ bb ≤ 3) :
  Calls Tryz.prog 67 #[.pointer (some ⟨b,0,none⟩),.agg #[.int .i64 3,.int .i64 r,.int .i64 a,.int .i64 bb,.int .i64 n]] w fun e w'=>DoP w b S base v1 v2 (.slice s3 n3 c3) L1 L2 d who pc (doM ⟨pc,rg,0⟩ ⟨3,r,a,bb,n⟩ d.chs d.tr who) e w':=by
 have hrn:r.toNat < 4:=by omega
 have hbn:bb.toNat < 4:=by omega
 refine (sub_any 3 r a bb n b S who pc (pc+1) 0 rg w h.t hr ha hb).mono ?_
 rintro e w' ⟨rfl,k⟩
 refine ⟨by simp [doM],s3,n3,c3,L2,?_⟩
 have q:=h.put (W2:=(w.setCell ⟨b,5+r.toNat,none⟩ (.int .i64 (IntKind.i64.wrap (regN rg a - regN rg bb))))) (fun q hq=>Below.heap_setCell _ _ _ q hq) (by simp) h.bt.set ((Below.refl _ _).setCell (p:=⟨b,_,none⟩) h.hbb _) (h.t.reg _ hrn _) k
 simpa [doM,putN] using q
theorem do4 (o r a bb n : Int) (b S base n3 c3 : Nat) (s3 : Option Addr) (v1 v2 : Value) (L1 L2 : List (Rec × Value)) (d : SD) (who : Nat) (pc : Int) (rg : List Int) (w : World) (h : Rd w b S base v1 v2 (.slice s3 n3 c3) L1 L2 d who pc (pc + 1) 0 rg) (hr : 0 ≤ r ∧ r ≤ 3) (ha : 0 ≤ a ∧ a ≤ 3) (hb : 0 ≤ bb ∧ bb ≤ 3) :
  Calls Tryz.prog 68 #[.pointer (some ⟨b,0,none⟩),.agg #[.int .i64 4,.int .i64 r,.int .i64 a,.int .i64 bb,.int .i64 n]] w fun e w'=>DoP w b S base v1 v2 (.slice s3 n3 c3) L1 L2 d who pc (doM ⟨pc,rg,0⟩ ⟨4,r,a,bb,n⟩ d.chs d.tr who) e w':=by
 have hrn:r.toNat < 4:=by omega
 have hbn:bb.toNat < 4:=by omega
 refine (less_any 4 r a bb n b S who pc (pc+1) 0 rg w h.t hr ha hb).mono ?_
 rintro e w' ⟨rfl,k⟩
 refine ⟨by simp [doM],s3,n3,c3,L2,?_⟩
 have q:=h.put (W2:=(w.setCell ⟨b,5+r.toNat,none⟩ (.int .i64 (bitN (decide (regN rg a < regN rg bb)))))) (fun q hq=>Below.heap_setCell _ _ _ q hq) (by simp) h.bt.set ((Below.refl _ _).setCell (p:=⟨b,_,none⟩) h.hbb _) (h.t.reg _ hrn _) k
 simpa [doM,putN] using q
theorem do11 (o r a bb n : Int) (b S base n3 c3 : Nat) (s3 : Option Addr) (v1 v2 : Value) (L1 L2 : List (Rec × Value)) (d : SD) (who : Nat) (pc : Int) (rg : List Int) (w : World) (h : Rd w b S base v1 v2 (.slice s3 n3 c3) L1 L2 d who pc (pc + 1) 0 rg) (hr : 0 ≤ r ∧ r ≤ 3) (ha : 0 ≤ a ∧ a ≤ 3) (hb : 0 ≤ bb ∧ bb ≤ 3) :
  Calls Tryz.prog 75 #[.pointer (some ⟨b,0,none⟩),.agg #[.int .i64 11,.int .i64 r,.int .i64 a,.int .i64 bb,.int .i64 n]] w fun e w'=>DoP w b S base v1 v2 (.slice s3 n3 c3) L1 L2 d who pc (doM ⟨pc,rg,0⟩ ⟨11,r,a,bb,n⟩ d.chs d.tr who) e w':=by
 have hrn:r.toNat < 4:=by omega
 have hbn:bb.toNat < 4:=by omega
 refine (jump_any 11 r a bb n b S who pc (pc+1) 0 rg w h.t hr ha hb).mono ?_
 rintro e w' ⟨rfl,k⟩
 refine ⟨by simp [doM],s3,n3,c3,L2,?_⟩
 have q:=h.put (W2:=(w.setCell ⟨b,3,none⟩ (.int .i64 (n)))) (fun q hq=>Below.heap_setCell _ _ _ q hq) (by simp) h.bt.set ((Below.refl _ _).setCell (p:=⟨b,_,none⟩) h.hbb _) (h.t.next _) k
 simpa [doM,putN] using q
theorem do13 (o r a bb n : Int) (b S base n3 c3 : Nat) (s3 : Option Addr) (v1 v2 : Value) (L1 L2 : List (Rec × Value)) (d : SD) (who : Nat) (pc : Int) (rg : List Int) (w : World) (h : Rd w b S base v1 v2 (.slice s3 n3 c3) L1 L2 d who pc (pc + 1) 0 rg) (hr : 0 ≤ r ∧ r ≤ 3) (ha : 0 ≤ a ∧ a ≤ 3) (hb : 0 ≤ bb ∧ bb ≤ 3) :
  Calls Tryz.prog 77 #[.pointer (some ⟨b,0,none⟩),.agg #[.int .i64 13,.int .i64 r,.int .i64 a,.int .i64 bb,.int .i64 n]] w fun e w'=>DoP w b S base v1 v2 (.slice s3 n3 c3) L1 L2 d who pc (doM ⟨pc,rg,0⟩ ⟨13,r,a,bb,n⟩ d.chs d.tr who) e w':=by
 have hrn:r.toNat < 4:=by omega
 have hbn:bb.toNat < 4:=by omega
 refine (end_any 13 r a bb n b S who pc (pc+1) 0 rg w h.t hr ha hb).mono ?_
 rintro e w' ⟨rfl,k⟩
 refine ⟨by simp [doM],s3,n3,c3,L2,?_⟩
 have q:=h.put (W2:=((w.setCell ⟨b,3,none⟩ (.int .i64 (pc))).setCell ⟨b,4,none⟩ (.int .i64 (1)))) (fun q hq=>(Below.heap_setCell _ _ _ q hq).trans (Below.heap_setCell _ _ _ q hq)) (by simp) h.bt.set.set (((Below.refl _ _).setCell (p:=⟨b,_,none⟩) h.hbb _).setCell (p:=⟨b,_,none⟩) h.hbb _) ((h.t.next _).state _) k
 simpa [doM,putN] using q
theorem do12 (o r a bb n : Int) (b S base n3 c3 : Nat) (s3 : Option Addr) (v1 v2 : Value) (L1 L2 : List (Rec × Value)) (d : SD) (who : Nat) (pc : Int) (rg : List Int) (w : World) (h : Rd w b S base v1 v2 (.slice s3 n3 c3) L1 L2 d who pc (pc + 1) 0 rg) (hr : 0 ≤ r ∧ r ≤ 3) (ha : 0 ≤ a ∧ a ≤ 3) (hb : 0 ≤ bb ∧ bb ≤ 3) :
  Calls Tryz.prog 76 #[.pointer (some ⟨b,0,none⟩),.agg #[.int .i64 12,.int .i64 r,.int .i64 a,.int .i64 bb,.int .i64 n]] w fun e w'=>DoP w b S base v1 v2 (.slice s3 n3 c3) L1 L2 d who pc (doM ⟨pc,rg,0⟩ ⟨12,r,a,bb,n⟩ d.chs d.tr who) e w':=by
 by_cases hz:regN rg a=0
 ·refine (zero_yes 12 r a bb n b S who pc (pc+1) 0 rg w h.t hr ha hb hz).mono ?_
  rintro e w' ⟨rfl,k⟩
  refine ⟨by simp [doM],s3,n3,c3,L2,?_⟩
  have q:=h.put (W2:=(w.setCell ⟨b,3,none⟩ (.int .i64 n))) (fun q hq=>Below.heap_setCell _ _ _ q hq) (by simp) h.bt.set ((Below.refl _ _).setCell (p:=⟨b,_,none⟩) h.hbb _) (h.t.next _) k
  simpa [doM,hz] using q
 ·refine (zero_no 12 r a bb n b S who pc (pc+1) 0 rg w h.t hr ha hb hz).mono ?_
  rintro e w' ⟨rfl,k⟩
  refine ⟨by simp [doM],s3,n3,c3,L2,?_⟩
  have q:=h.put (W2:=w) (fun q _=>rfl) rfl h.bt (Below.refl _ _) h.t k
  simpa [doM,hz] using q
end
end Go.Proofs.YtknffngbdakblaaGreat
