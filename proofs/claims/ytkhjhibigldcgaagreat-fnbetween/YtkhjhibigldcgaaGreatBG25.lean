/- Witness of the specification over a right program: its machine, by its size. Conditions: the program is right and fits; at most 1000 picks. Witness over drawn picks; the box of its machine is made at any time. No condition of its own. -/
import Derived.Test.YtkhjhibigldcgaaGreatBG00
import Derived.Test.YtkhjhibigldcgaaGreatBProgOk
import Derived.Test.YtkhjhibigldcgaaGreatBG01
import Derived.Test.YtkhjhibigldcgaaGreatBG17
import Derived.Test.YtkhjhibigldcgaaGreatBG04
import Derived.Test.YtkhjhibigldcgaaGreatBG07
import Derived.Test.YtkhjhibigldcgaaGreatBG12
import Derived.Test.YtkhjhibigldcgaaGreatBG10
import Derived.Test.YtkhjhibigldcgaaGreatBG20
import Derived.Test.YtkhjhibigldcgaaGreatBG11
import Derived.Test.YtkhjhibigldcgaaGreatBG14
import Derived.Test.YtkhjhibigldcgaaGreatBG09
import Derived.Test.YtkhjhibigldcgaaGreatBG23
import Derived.Test.YtkhjhibigldcgaaGreatBG24
import Derived.Test.YtkhjhibigldcgaaGreatBG16
import Derived.Test.YtkhjhibigldcgaaGreatBG13
import Derived.Deep.RegionHeld3
import Derived.Deep.DeepCutAuto
namespace Go.Proofs.YtkhjhibigldcgaaGreat
section
set_option linter.unusedSimpArgs false
set_option linter.unusedVariables false
set_option maxRecDepth 100000
open Go.RowKit Go.Deep
/- the program's box and the answer's -/
structure BcW (V:World) (z:Nat) (v0 v1:Value):Prop where
 p0:V.cell? ⟨z,0,none⟩=some v0
 p1:V.cell? ⟨z,1,none⟩=some v1
 x:X4 V (z+1) (.slice none 0 0) (.slice none 0 0) (.slice none 0 0) (.slice none 0 0)
theorem BcW.below {V V':World} {z:Nat} {v0 v1:Value} (h:BcW V z v0 v1) {n:Nat} (hb:Below n V V') (hn:z+1 < n):BcW V' z v0 v1:=
 ⟨(hb.cell (p:=⟨z,0,none⟩) (by show z < n;omega)).trans h.p0,(hb.cell (p:=⟨z,1,none⟩) (by show z < n;omega)).trans h.p1,h.x.keep hb hn⟩
theorem lau_sz (p:PD):MaSz (lauD p)≤6000:=by
 have a:=(cpM_small p).n
 have b:=szC_most (cpM p).1 (fun i x hx=>by
  have hl:=(List.getElem?_eq_some_iff.1 hx).1
  have q:=(cpM_small p).l i hl
  rw [List.getD_eq_getElem?_getD,hx] at q
  exact q)
 unfold lauD newMa
 split
 ·have e1:szK (List.replicate (cpM p).1.length zKD)=(cpM p).1.length * 32:=szK_new _
  have e2:(newM 24).length+szR (newM 24)≤700:=by decide+kernel
  unfold MaSz newMd
  simp only [List.length_replicate,List.length_nil]
  omega
 ·decide
theorem lau_rnM_sz (p:PD) (l:List ND) (hm:machB (lauD p)=true) (hl:l.length≤1000):MaSz (rnM (lauD p) l)≤40000:=by
 have ok:=rnM_ok l hm
 have h1:=rnM_sz l hm
 have h2:=rnM_cds l hm
 have h3:=mach_k ok
 have h4:=lau_sz p
 unfold MaSz at h4 ⊢
 rw [h2]
 omega
theorem lau_ok {p:PD} (h:lauB p=true):machB (lauD p)=true:=by
 unfold lauB at h
 unfold lauD newMa
 rw [h]
 rw [if_pos rfl,mach_new]
 exact h
theorem lau_len {p:PD} (h:lauB p=true):(lauD p).cores.length=p.bods.length:=by
 have hm:=lau_ok h
 have hl:=mach_len hm
 rw [hl]
 unfold lauB at h
 unfold lauD newMa
 rw [h,if_pos rfl]
 show (cpM p).1.length=_
 unfold cpM at h ⊢
 split
 ·exact cdL_len _ _
 ·rename_i q
  rw [if_neg q] at h
  cases h
def WitQ (w:World) (p:PD) (e:Ending) (w':World):Prop:=∃ (q:MP) (D:MD) (v:Value) (ok:Bool),e=.returned (.tuple #[v,.agg #[.slice q.s1 D.codes.length q.c1,.slice q.s2 D.cores.length q.c2,.slice q.s3 D.mem.length q.c3,.slice q.s4 D.tr.length q.c4],.bool ok])∧MaR w' w.heap.size w'.heap.size q.s1 q.s2 q.s3 q.s4 D∧MaSz D≤40000∧(ok=true→D.cores.length=p.bods.length)∧Below w.heap.size w w'
set_option maxRecDepth 100000 in
set_option maxHeartbeats 8000000 in
theorem specWit_any (s s' sp : Option Addr) (c c' cp lo hi lo' hi' : Nat) (p : PD) (l : List ND) (w : World) (h : ProgR w lo hi s s' p) (hB : hi ≤ w.heap.size) (hf : Fits p) (hp : progB p = true) (h' : NtsR w lo' hi' sp l) (hB' : hi' ≤ w.heap.size) (hl : l.length ≤ 1000) (hlate : ∀ x ∈ l, x.v ≤ 9223372036854775807) :
  Calls Tryz.prog 18 #[.agg #[.slice s p.caps.length c,.slice s' p.bods.length c'],.slice sp l.length cp] w (WitQ w p):=by
 obtain ⟨W0,hW0,x0,k0,z0,y0,y1⟩:=lau_new w (.slice s p.caps.length c) (.slice s' p.bods.length c') (.slice none 0 0) (.slice none 0 0) (.slice none 0 0) (.slice none 0 0) 27 35
 have zW0:W0.heap.size=w.heap.size+1+1:=by subst hW0;simp
 obtain ⟨W,hW⟩:∃ W,W0.alloc (.cells #[] 3)=W:=⟨_,rfl⟩
 have kW1:Below W0.heap.size W0 W:=by subst hW;exact (Below.refl _ _).alloc (Nat.le_refl _) _
 have zW:W.heap.size=w.heap.size+1+1+1:=by subst hW;simp [zW0]
 have hE:OwnN W (w.heap.size+1+1) (.slice (some ⟨w.heap.size+1+1,0,none⟩) 0 0) []:=by
  have q:=ownN_empty (w:=W0) (base:=w.heap.size+1+1) (by omega)
  rw [hW,zW0] at q
  exact q
 have bc:BcW W0 w.heap.size (.slice s p.caps.length c) (.slice s' p.bods.length c'):=⟨y0,y1,x0⟩
 have HW:=hidN hW
 have HW0:=hidN hW0
 have H:=hidN h
 have HP:=hidN hp
 have H':=hidN h'
 have HLT:=hidN hlate
 have HE:=hidN hE
 have BC0:=hidN (bc.below kW1 (by omega))
 have KW:=hidN (k0.trans (kW1.mono (by omega)))
 have ZW:=hidN zW
 obtain ⟨d,hd⟩:∃ d,lauD p=d:=⟨_,rfl⟩
 obtain ⟨ob,hob⟩:∃ d,lauB p=d:=⟨_,rfl⟩
 have LA0:=specLauW_any s s' c c' lo hi p W (ProgR.keep' H.out (Keep.of_below KW.out hB)) (by omega) hf
 rw [hd,hob] at LA0
 have LA:=hidN LA0
 have HD:=hidN hd
 have HOB:=hidN hob
 have zl:w.heap.size < W.heap.size:=by omega
 have q0:=BC0.out.p0
 have q1:=BC0.out.p1
 clear LA0 hd hob hW hW0 k0 kW1 bc h h' hp hlate hE zW0 zW x0 z0 y0 y1
 go_enter Tryz.func18,Tryz.ntmps18
 go_upto_region 2 with fail
 rw [HW0.out]
 rw [HW.out]
 go_wp2_with fail
 refine LA.out.mono ?_
 rintro e w2 ⟨x,rfl,hmo,hb2,hq2⟩
 obtain ⟨Y,hY,xY,kY,zY⟩:=X4.new w2 (.slice x.s1 d.codes.length x.c1) (.slice x.s2 d.cores.length x.c2) (.slice x.s3 d.mem.length x.c3) (.slice x.s4 d.tr.length x.c4) 35
 have HY:=hidN hY
 have MO:=hidN hmo
 have HQ:=hidN hq2
 have KY:=hidN kY
 have HB2:=hidN hb2
 have XY:=hidN xY
 have zw:=ZW.out
 have z2:=hb2.size
 have BCY:=hidN ((BC0.out.below hb2 (by omega)).below kY (by omega))
 clear q0 q1 hY xY kY hmo hq2 hb2 LA HW HW0
 go_upto_region 3 with fail
 rw [HY.out]
 obtain ⟨bm,hbm⟩:∃ b,w2.heap.size=b:=⟨_,rfl⟩
 have KT:Hid (∀ V,Below (w.heap.size+1+1) W V→Below w.heap.size w V):=fun V k=>KW.out.trans (k.mono (by omega))
 cases ob with
 | false=>
  obtain ⟨⟨a4,a0,a1,a2,a3⟩,af⟩:=BCY.out.x
  clear hbm
  go_wp2
  have kYw:Below w.heap.size w Y:=KW.out.trans ((HB2.out.trans (KY.out.mono (by omega))).mono (by omega))
  have BE:=lau_below (b:=w.heap.size+1) kYw (by omega) (.slice none 0 0) (.slice none 0 0) (.slice none 0 0) (.slice none 0 0)
  have xy:=BCY.out.x.set0 (u:=.slice none 0 0) |>.set1 (u:=.slice none 0 0) |>.set2 (u:=.slice none 0 0) |>.set3 (u:=.slice none 0 0)
  generalize (((Y.setCell ⟨w.heap.size+1,0,none⟩ (.slice none 0 0)).setCell ⟨w.heap.size+1,1,none⟩ (.slice none 0 0)).setCell ⟨w.heap.size+1,2,none⟩ (.slice none 0 0)).setCell ⟨w.heap.size+1,3,none⟩ (.slice none 0 0)=E at xy BE ⊢
  have kA:Below E.heap.size E (E.alloc (.cells #[] 3)):=(Below.refl _ _).alloc (Nat.le_refl _) _
  have xz:=xy.keep kA (by have:=xy.x.z;omega)
  refine bodyPost_ret (v:=.tuple #[.slice (some ⟨Y.heap.size,0,none⟩) 0 0,.agg #[.slice none 0 0,.slice none 0 0,.slice none 0 0,.slice none 0 0],.bool false]) (by simp [results,Tryz.results18,go_sem,xz.x.c0,xz.x.c1,xz.x.c2,xz.x.c3]) rfl ⟨noMP,noMd,_,false,rfl,(noMa _ _ _).ma,by decide,(fun h=>absurd h (by simp)),BE.trans (kA.mono (by have:=BE.size;omega))⟩
 | true=>
  obtain ⟨LC,LK,S,q2⟩:=HQ.out rfl
  have RJ:=hidN (show RnS W Y w2.heap.size W.heap.size (w.heap.size+1+1) d (.slice (some ⟨w.heap.size+1+1,0,none⟩) 0 0) [] from
   ⟨⟨_,_,_,_,_,LC,LK,S,(q2.toH (by omega)).re (w':=Y) (fun b _ h1=>KY.out.block b h1) KY.out.size,XY.out.x.c0,XY.out.x.c1,XY.out.x.c2,XY.out.x.c3,fun h=>h.elim (fun h=>by omega) (fun h=>by omega),fun q h=>h.elim (fun h=>h.2) (fun h=>by omega),fun q e h=>by
    simp only [Value.ownBlock,Option.some.injEq] at e
    subst e
    exact h.elim (fun h=>by have:=h.2;omega) (fun h=>by omega)⟩,XY.out.fz,by rw [← HY.out];exact BxT.new _ _,HE.out.keep (fun b _ h1=>(KY.out.block b (by omega)).trans (HB2.out.block b h1)),(HB2.out.mono (by omega)).trans (KY.out.mono (by omega)),by omega⟩)
  have BB:Hid (W.heap.size≤bm):=by show _≤_;omega
  rw [hbm] at RJ ⊢
  clear hbm HY XY KY HB2 HQ MO q2 z2 zw zY
  have HYM:Hid (machB d=true):=by show _=_;rw [← HD.out];exact lau_ok HOB.out
  have hll:¬ (4000:Int) < (l.length:Int):=by omega
  go_wp2_with fail
  go_loopw [7,10] (fun u i wr=>∃ (k:Nat) (C:List Int),k≤l.length∧C.length≤k∧i=.int .i64 k∧RnS W wr bm W.heap.size (w.heap.size+1+1) (rnM d (l.take k)) u C) (fun _ i _=>l.length - (intOf i).toNat)
  case atStart=>exact ⟨0,[],Nat.zero_le _,Nat.le_refl _,rfl,RJ.out⟩
  case round=>
   clear RJ BCY
   obtain ⟨k,C,hk,hC,rfl,rj⟩:=hrel
   by_cases hlt:k < l.length
   ·obtain ⟨⟨xw,xv⟩,ek⟩:∃ x,l[k]? =some x:=⟨_,List.getElem?_eq_getElem hlt⟩
    have ED:=hidN (rn_take (d:=d) ek).1
    have XL:=hidN (HLT.out _ (List.mem_of_getElem? ek))
    have hoj:=rnM_ok (l.take k) HYM.out
    have hcm:=rnM_cores (l.take k) HYM.out
    have kw:=KT.out _ rj.k
    obtain ⟨g,o,es5,zg,p0,p1⟩:=H'.out.pk hB' kw ek
    subst es5
    dsimp only at ED XL p0 p1
    have zg2:g < wr.heap.size:=by have:=kw.size;omega
    have BCR:=hidN (BC0.out.below rj.k (by omega))
    clear ek kw
    generalize rnM d (l.take k)=M at rj hoj hcm ED
    obtain ⟨su,cu,eu⟩:=rj.n.sl
    subst eu
    have b0:(0:Int)≤(k:Int):=by omega
    have b1:(k:Int) < (l.length:Int):=by omega
    obtain ⟨T,hT,tx0,tx1,kT,zT⟩:∃ T,wr.alloc (.cells #[.int .i64 xw,.int .i64 xv] 75)=T∧T.cell? ⟨wr.heap.size,0,none⟩=some (.int .i64 xw)∧T.cell? ⟨wr.heap.size,1,none⟩=some (.int .i64 xv)∧Below wr.heap.size wr T∧wr.heap.size < T.heap.size:=⟨_,rfl,by simp [go_sem],by simp [go_sem],(Below.refl _ _).alloc (Nat.le_refl _) _,by simp⟩
    have HT:=hidN hT
    have RT:=hidN (rj.keep (by have:=ZW.out;omega) kT)
    have RJ:=hidN rj
    have KT1:=hidN kT
    have BCT:=hidN (BCR.out.below kT (by have:=BCR.out.x.x.z;omega))
    have HOJ:=hidN hoj
    have HCM:=hidN hcm
    have TX0:=hidN tx0
    have TX1:=hidN tx1
    have ZT:=hidN zT
    clear hT tx0 tx1 kT zT rj hoj hcm
    go_upto_region 9 with fail
    rw [HT.out]
    clear HT p0 p1 zg zg2 BCR
    obtain ⟨bx,hbx⟩:∃ b,wr.heap.size=b:=⟨_,rfl⟩
    rw [hbx] at TX0 TX1 ZT ⊢
    have HBX:=hidN hbx
    clear hbx
    obtain ⟨p9',s9',c9',e9',k0,k1,k2,k3,mo,sp⟩:=RT.out.fin
    have hwn:IntKind.i64.wrap ((M.cores.length:Int) - 1)=(M.cores.length:Int) - 1:=Go.IntWalk.i64_in _ ⟨by omega,by have:=mach_k HOJ.out;omega⟩
    have zb:=RT.out.bx.lt
    have tx0:=TX0.out
    have zt:=ZT.out
    by_cases hw:0≤xw∧xw < (M.cores.length:Int)
    ·have HB1:Hid (Plain.inB xw 0 ((M.cores.length:Int) - 1)=true):=by show _=_;unfold Plain.inB;simp;omega
     obtain ⟨n,rfl⟩:∃ n:Nat,xw=(n:Int):=⟨xw.toNat,by omega⟩
     obtain ⟨kd,code,st,ha⟩:=mach_at HOJ.out (who:=n) (by omega)
     clear k0 k1 k2 k3 mo sp e9'
     obtain ⟨Hq0,vc,vk,vm,vt,LC',LK',S',q00,q0,q1,q2,q3,hbm0,hqb0,sp0⟩:=RJ.out.o
     have qh:=q00.hop (w':=T) (mach_mem HOJ.out) (fun b hb _=>KT1.out.block b hb) KT1.out.size
     have zbw:=RJ.out.bx.lt
     have zTw:=KT1.out.size
     have zx:=HBX.out
     obtain ⟨Hq,hHq⟩:∃ Hq:Nat→Prop,(fun x=>(x < wr.heap.size∧Hq0 x)∨T.heap.size≤x)=Hq:=⟨_,rfl⟩
     have hbm:¬ Hq bm:=by subst hHq;exact fun h=>h.elim (fun h=>hbm0 h.2) (fun h=>by omega)
     have hqb:∀ x,Hq x→W.heap.size≤x:=by subst hHq;exact fun x h=>h.elim (fun h=>hqb0 x h.2) (fun h=>by have:=RT.out.m;omega)
     have hsp:∀ x,(Value.slice su C.length cu).ownBlock=some x→¬ Hq x:=by subst hHq;exact fun x e h=>h.elim (fun h=>sp0 x e h.2) (fun h=>by have:=(World.ownsRow.lt RJ.out.n x e).2;omega)
     have hbx:¬ Hq bx:=by subst hHq;exact fun h=>h.elim (fun h=>by omega) (fun h=>by omega)
     rw [hHq] at qh
     obtain ⟨pp,gc,cc,gk,ck,gs,cs,gr,cr,gv,cv,gO,cO,sO,ct,O⟩:=qh.open ha
     have ek':=O.ek
     subst ek'
     have t1:=(KT1.out.cell (p:=⟨bm,1,none⟩) zbw).trans q1
     have T0:=hidN ((KT1.out.cell (p:=⟨bm,0,none⟩) zbw).trans q0)
     have T1:=hidN t1
     have T2:=hidN ((KT1.out.cell (p:=⟨bm,2,none⟩) zbw).trans q2)
     have T3:=hidN ((KT1.out.cell (p:=⟨bm,3,none⟩) zbw).trans q3)
     have hLK:LK'.length=M.cores.length:=by have:=congrArg List.length qh.ek;simpa using this
     have HB2:Hid (Plain.inB (n:Int) 0 ((LK'.length:Int) - 1)=true):=by rw [hLK];exact HB1
     rw [← hLK] at hwn
     have n0:(0:Int)≤(n:Int):=by omega
     have n1:(n:Int) < (LK'.length:Int):=by have:=O.wk;omega
     have o3:=O.k3
     have o0:=O.k0
     have zk:=O.zk
     have QH:=hidN qh
     have HA:=hidN ha
     have HSP:=hidN hsp
     have HBM:=hidN hbm
     have HQB:=hidN hqb
     have HBQ:=hidN hbx
     clear hHq q00 q0 q1 q2 q3 hbm0 hqb0 sp0 qh ha hsp hbm hqb hbx O HB1 zx zTw zbw hLK
     by_cases hst:kd.st=0
     ·have hsb:(kd.st !=0)=false:=by simp [hst]
      obtain ⟨j,hj⟩:∃ j:Nat,kd.pc=(j:Int):=⟨kd.pc.toNat,by have:=HA.out.pc0;omega⟩
      rw [hj] at o0
      have LS0:=l8Step_any W.heap.size vc (.slice (some ⟨gk,0,none⟩) LK'.length ck) vm vt LC' LK' S' M n kd code st xv T QH.out HA.out RT.out.m XL.out hst
      have ECD0:=(stepM_sz (n:Int) xv HOJ.out).1
      have OK0:=stepM_ok (n:Int) xv HOJ.out
      obtain ⟨XX,hXX⟩:∃ X,stepM M n xv=X:=⟨_,rfl⟩
      rw [hXX] at LS0 ED OK0 ECD0
      have LS:=hidN LS0
      have OK9:=hidN OK0
      have ECD:=hidN ECD0
      clear LS0 hXX OK0 ECD0
      have t0:=T0.out
      have t2:=T2.out
      have t3:=T3.out
      have tx1:=TX1.out
      go_upto_region 12 with (first | (go_at_call 13;refine (l1In_is _ _ _ true _ HB2.out).mono ?_;rintro e w3 ⟨rfl,rfl⟩) | (go_at_call 28;refine Calls.mono LS.out ?_;rintro e w9 ⟨⟨vc',vk',vm',vt',LC9,LK9,S9,rfl,q9,b9⟩,f9⟩;obtain ⟨p9,rfl,rfl,rfl,rfl,-⟩:=q9.mo) | fail)
      have eb:=f9 bm HBM.out
      have ebx:=f9 bx HBQ.out
      have zb9:bm < w9.heap.size:=(RT.out.bx.same eb).lt
      have z99:=b9.size
      obtain ⟨N,hN,xN,kN,zN⟩:=X4.new w9 (.slice p9.s1 XX.1.codes.length p9.c1) (.slice p9.s2 XX.1.cores.length p9.c2) (.slice p9.s3 XX.1.mem.length p9.c3) (.slice p9.s4 XX.1.tr.length p9.c4) 35
      rw [hN]
      have e0:=(kN.cell (p:=⟨bm,0,none⟩) zb9).trans ((World.cell?_of_block eb).trans T0.out)
      have e1:=(kN.cell (p:=⟨bm,1,none⟩) zb9).trans ((World.cell?_of_block eb).trans T1.out)
      have e2:=(kN.cell (p:=⟨bm,2,none⟩) zb9).trans ((World.cell?_of_block eb).trans T2.out)
      have e3:=(kN.cell (p:=⟨bm,3,none⟩) zb9).trans ((World.cell?_of_block eb).trans T3.out)
      have ff:∀ j,N.frozen? ⟨bm,j,none⟩=false:=fun j=>(kN.frozen (p:=⟨bm,j,none⟩) zb9).trans ((World.frozen?_of_block eb).trans (RT.out.fm j))
      have RZ:=hidN (RT.out.put (V':=N) (by have:=ZW.out;omega) BB.out HSP.out e0 e1 e2 e3 HBM.out HQB.out (q9.keep (w':=N) (fun b _ h1=>kN.block b h1) kN.size) (b9.trans (kN.mono (by have:=RT.out.m;omega))) (fun b h=>(kN.block b (by have:=QH.out.lt h;omega)).trans (f9 b h)))
      have TN0:=hidN ((kN.cell (p:=⟨bx,0,none⟩) (by show bx < _;omega)).trans ((World.cell?_of_block ebx).trans TX0.out))
      have zbN:bm < N.heap.size:=by omega
      obtain ⟨⟨xz,x0,x1,x2,x3⟩,-⟩:=xN
      clear hN eb ebx q9 b9 f9 t0 t1 t2 t3 tx0 tx1 o0 o3 LS kN
      go_upto_region 13 with fail
      obtain ⟨Z,hZ⟩:∃ Z,((((N.setCell ⟨bm,0,none⟩ (.slice p9.s1 XX.1.codes.length p9.c1)).setCell ⟨bm,1,none⟩ (.slice p9.s2 XX.1.cores.length p9.c2)).setCell ⟨bm,2,none⟩ (.slice p9.s3 XX.1.mem.length p9.c3)).setCell ⟨bm,3,none⟩ (.slice p9.s4 XX.1.tr.length p9.c4))=Z:=⟨_,rfl⟩
      have nbx:bm≠bx:=by have:=HBX.out;have:=RJ.out.bx.lt;omega
      have TZ0:Hid (Z.cell? ⟨bx,0,none⟩=some (.int .i64 n)):=by
       show _=_
       rw [← hZ]
       exact (setC_blk nbx).trans ((setC_blk nbx).trans ((setC_blk nbx).trans ((setC_blk nbx).trans TN0.out)))
      have zbx:bx < Z.heap.size:=by rw [← hZ];simp;omega
      rw [hZ] at RZ ⊢
      clear hZ e0 e1 e2 e3 ff x0 x1 x2 x3 TN0 T0 T1 T2 T3 xz zbN zN z99
      by_cases hc0:XX.2=0
      ·have hcb:(XX.2==0)=true:=by simp [hc0]
       have hdl:d.cores.length=p.bods.length:=by rw [← HD.out];exact lau_len HOB.out
       have hnp:n < p.bods.length:=by have:=HCM.out;omega
       clear hdl
       obtain ⟨pz,sz',cz,ez,z0,z1,z2,z3,mz,-⟩:=RZ.out.fin
       have hcodes:XX.1.codes[n]? =some code:=by rw [ECD.out];exact HA.out.hc
       have hlen:XX.1.cores.length=M.cores.length:=by rw [mach_len OK9.out,ECD.out,mach_len HOJ.out]
       obtain ⟨kn,code2,st2,ha2⟩:=mach_at OK9.out (who:=n) (by omega)
       obtain ⟨gC,oC,sC,cC,eC,-,hgC,cC0,insC⟩:=mz.ma.1.at hcodes
       have hjl:j < code.length:=by have:=HA.out.pcl;omega
       rcases insC with insC | ⟨g2,o2,e2,-,hg2,hc2⟩
       ·rw [insC] at hjl;simp at hjl
       have at5:=hc2 j hjl
       have ez5:code.getD j z5=st:=by have h9:=HA.out.hz;rw [hj] at h9;simpa using h9
       rw [ez5] at at5
       obtain ⟨v0,v1,v2,v3,v4⟩:=at5
       rw [eC] at z0
       subst e2
       have BZ:=BC0.out.below RZ.out.k (by omega)
       have y0:=BZ.p0
       have y1:=BZ.p1
       have zy:=BZ.x.x.z
       have tz:=TZ0.out
       have zbm:=RZ.out.bx.lt
       have hr:st.o=8→0≤st.r∧st.r < (kn.regs.length:Int):=fun _=>by
        have hok:=HA.out.ok
        unfold stX Plain.stepB at hok
        have h9:=of_decide_eq_true hok
        rw [ha2.regs]
        exact ⟨h9.1,by have:=h9.2.1;omega⟩
       have CM:Hid (∀ V,Below Z.heap.size Z V→Calls Tryz.prog 29 #[.agg #[.slice s p.caps.length c,.slice s' p.bods.length c'],.int .i64 n,.int .i64 j,.agg #[.int .i64 st.o,.int .i64 st.r,.int .i64 st.a,.int .i64 st.b,.int .i64 st.n],.agg #[.slice (some ⟨gC,oC,none⟩) XX.1.codes.length pz.c1,.slice pz.s2 XX.1.cores.length pz.c2,.slice pz.s3 XX.1.mem.length pz.c3,.slice pz.s4 XX.1.tr.length pz.c4]] V fun e w'=>∃ z:Bool,e=.returned (.bool z)∧Below V.heap.size V w'):=fun V kV=>
        specCommits_any s s' c c' lo hi p n j st.o st.r st.a st.b st.n (some ⟨gC,oC,none⟩) pz.s2 pz.s3 pz.s4 pz.c1 pz.c2 pz.c3 pz.c4 W.heap.size Z.heap.size XX.1 V (ProgR.keep' H.out (Keep.of_below ((KT.out _ RZ.out.k).trans (kV.mono (by omega))) hB)) (by have:=kV.size;omega) hf HP.out hnp (KsR.keep mz.ma.2.1 (Keep.of_below kV (Nat.le_refl _))) kV.size kn ha2.hk hr
       have FZ:Hid (∀ V,Below Z.heap.size Z V→V.cell? ⟨bm,0,none⟩=some (.slice (some ⟨gC,oC,none⟩) XX.1.codes.length pz.c1)∧V.cell? ⟨bm,1,none⟩=some (.slice pz.s2 XX.1.cores.length pz.c2)∧V.cell? ⟨bm,2,none⟩=some (.slice pz.s3 XX.1.mem.length pz.c3)∧V.cell? ⟨bm,3,none⟩=some (.slice pz.s4 XX.1.tr.length pz.c4)∧V.cell? ⟨w.heap.size,0,none⟩=some (.slice s p.caps.length c)∧V.cell? ⟨w.heap.size,1,none⟩=some (.slice s' p.bods.length c')∧V.cell? ⟨bx,0,none⟩=some (.int .i64 n)∧V.cell? ⟨gC,oC+n,none⟩=some (.slice (some ⟨g2,o2,none⟩) code.length cC)∧V.cell? ⟨g2,o2+j * 5,none⟩=some (.int .i64 st.o)∧V.cell? ⟨g2,o2+j * 5+1,none⟩=some (.int .i64 st.r)∧V.cell? ⟨g2,o2+j * 5+2,none⟩=some (.int .i64 st.a)∧V.cell? ⟨g2,o2+j * 5+3,none⟩=some (.int .i64 st.b)∧V.cell? ⟨g2,o2+j * 5+4,none⟩=some (.int .i64 st.n)):=fun V kV=>⟨(kV.cell (p:=⟨bm,0,none⟩) (by show bm < _;omega)).trans z0,(kV.cell (p:=⟨bm,1,none⟩) (by show bm < _;omega)).trans z1,(kV.cell (p:=⟨bm,2,none⟩) (by show bm < _;omega)).trans z2,(kV.cell (p:=⟨bm,3,none⟩) (by show bm < _;omega)).trans z3,(kV.cell (p:=⟨w.heap.size,0,none⟩) (by show w.heap.size < _;omega)).trans y0,(kV.cell (p:=⟨w.heap.size,1,none⟩) (by show w.heap.size < _;omega)).trans y1,(kV.cell (p:=⟨bx,0,none⟩) (by show bx < _;omega)).trans tz,(kV.cell (p:=⟨gC,oC+n,none⟩) (by show gC < _;omega)).trans cC0,(kV.cell (p:=⟨g2,o2+j * 5,none⟩) (by show g2 < _;omega)).trans v0,(kV.cell (p:=⟨g2,o2+j * 5+1,none⟩) (by show g2 < _;omega)).trans v1,(kV.cell (p:=⟨g2,o2+j * 5+2,none⟩) (by show g2 < _;omega)).trans v2,(kV.cell (p:=⟨g2,o2+j * 5+3,none⟩) (by show g2 < _;omega)).trans v3,(kV.cell (p:=⟨g2,o2+j * 5+4,none⟩) (by show g2 < _;omega)).trans v4⟩
       have b2:(n:Int) < (XX.1.codes.length:Int):=by have:=(List.getElem?_eq_some_iff.1 hcodes).1;omega
       have b3:(0:Int)≤(j:Int):=by omega
       have b4:(j:Int) < (code.length:Int):=by omega
       have kd:Below Z.heap.size Z Z.drew:=(Below.refl _ _).drew
       clear hc2 mz ha2 hr hcodes ez hlen BZ
       go_region_held3 (fun w'=>w'.cell? ⟨bm,0,none⟩=some (.slice (some ⟨gC,oC,none⟩) XX.1.codes.length pz.c1)∧w'.cell? ⟨bm,1,none⟩=some (.slice pz.s2 XX.1.cores.length pz.c2)∧w'.cell? ⟨bm,2,none⟩=some (.slice pz.s3 XX.1.mem.length pz.c3)∧w'.cell? ⟨bm,3,none⟩=some (.slice pz.s4 XX.1.tr.length pz.c4)∧w'.cell? ⟨w.heap.size,0,none⟩=some (.slice s p.caps.length c)∧w'.cell? ⟨w.heap.size,1,none⟩=some (.slice s' p.bods.length c')∧w'.cell? ⟨bx,0,none⟩=some (.int .i64 n)∧w'.cell? ⟨gC,oC+n,none⟩=some (.slice (some ⟨g2,o2,none⟩) code.length cC)∧w'.cell? ⟨g2,o2+j * 5,none⟩=some (.int .i64 st.o)∧w'.cell? ⟨g2,o2+j * 5+1,none⟩=some (.int .i64 st.r)∧w'.cell? ⟨g2,o2+j * 5+2,none⟩=some (.int .i64 st.a)∧w'.cell? ⟨g2,o2+j * 5+3,none⟩=some (.int .i64 st.b)∧w'.cell? ⟨g2,o2+j * 5+4,none⟩=some (.int .i64 st.n)) (go_keep) (first | (go_at_call 29;refine (CM.out Z.drew kd).mono ?_;rintro e w8 ⟨zb9,rfl,hb8⟩;have k8:Below Z.heap.size Z w8:=kd.trans hb8;have R8:=hidN (RZ.out.keep (by have:=ZW.out;omega) k8);obtain ⟨f0,f1,f2,f3,f4,f5,f6,f7,f8,f9,f10,f11,f12⟩:=FZ.out w8 k8) | fail)
       all_goals
        clear CM FZ hb8 k8 kd y0 y1 z0 z1 z2 z3 tz cC0 v0 v1 v2 v3 v4 f0 f1 f2 f3 f4 f5 f7 f8 f9 f10 f11 f12
        cases zb9
        ·go_wp2
         go_roundw
         case rel=>exact ⟨k+1,C,by omega,by omega,by go_num,by rw [ED.out];exact R8.out⟩
         case measure=>simp [intOf];omega
        ·go_wp2_with (at_builtin;refine app_one rfl _ _ rfl w8 (n:Int) (w.heap.size+1+1) (.slice su C.length cu) C rfl R8.out.n rfl (by omega) (by have:=R8.out.m;have:=ZW.out;omega) ?_;intro g5 cap5 w5' ho5 hb5 hf5;have RA:=hidN (R8.out.app OK9.out ho5 hb5 hf5);clear ho5 hb5 hf5)
         go_roundw
         case rel=>exact ⟨k+1,C++[(n:Int)],by omega,by simp;omega,by go_num,by rw [ED.out];exact RA.out⟩
         case measure=>simp [intOf];omega
      ·have hcb:(XX.2==0)=false:=by simp [hc0]
       have hne:=ext_ne Z
       refine regionExt Z (by kernel_rfl) (by kernel_rfl) ?_
       repeat (go_big_quiet_step (fail))
       refine wpQuiet_nil ?_
       rintro w5 ⟨X5,rfl⟩
       have R5:=hidN (RZ.out.keep (by have:=ZW.out;omega) X5.b)
       go_wp2
       go_roundw
       case rel=>exact ⟨k+1,C,by omega,by omega,by go_num,by rw [ED.out];exact R5.out⟩
       case measure=>simp [intOf];omega
     ·have hsb:(kd.st !=0)=true:=by simp [hst]
      go_wp2_with (go_at_call 13;refine (l1In_is _ _ _ true _ HB2.out).mono ?_;rintro e w3 ⟨rfl,rfl⟩)
      rw [stepM_over HA.out xv hst] at ED
      go_roundw
      case rel=>exact ⟨k+1,C,by omega,by omega,by go_num,by rw [ED.out];exact RT.out⟩
      case measure=>simp [intOf];omega
    ·have HB1:Hid (Plain.inB xw 0 ((M.cores.length:Int) - 1)=false):=by show _=_;unfold Plain.inB;simp;omega
     go_wp2_with (go_at_call 13;refine (l1In_is _ _ _ false _ HB1.out).mono ?_;rintro e w3 ⟨rfl,rfl⟩)
     rw [stepM_none (d:=M) xv hw] at ED
     go_roundw
     case rel=>exact ⟨k+1,C,by omega,by omega,by go_num,by rw [ED.out];exact RT.out⟩
     case measure=>simp [intOf];omega
   ·have ek:k=l.length:=by omega
    rw [ek,List.take_length] at rj
    have zb:=rj.bx.lt
    have RK:=hidN rj
    obtain ⟨p',s',c',e',k0,k1,k2,k3,mo,sp⟩:=rj.fin
    subst e'
    have MO:=hidN mo
    have BCR:=hidN (BC0.out.below rj.k (by omega))
    obtain ⟨⟨zz2,a0,a1,a2,a3⟩,fa⟩:=BCR.out.x
    have ne:¬ bm=w.heap.size+1:=by have:=BB.out;have:=ZW.out;omega
    have ne':¬ w.heap.size+1=bm:=fun e=>ne e.symm
    have b1:¬ (k:Int) < (l.length:Int):=by omega
    have CL:Hid ((rnM d l).cores.length=p.bods.length):=by show _=_;rw [rnM_cores l HYM.out,← HD.out];exact lau_len HOB.out
    have SZ:Hid (MaSz (rnM d l)≤40000):=by show _≤_;rw [← HD.out];exact lau_rnM_sz p l (by rw [HD.out];exact HYM.out) hl
    clear mo sp rj hlt ek
    generalize rnM d l=D at k0 k1 k2 k3 MO RK CL SZ
    go_wp2_with fail
    go_region_held3 (fun w'=>w'.cell? ⟨bm,0,none⟩=some (.slice p'.s1 D.codes.length p'.c1)∧w'.cell? ⟨bm,1,none⟩=some (.slice p'.s2 D.cores.length p'.c2)∧w'.cell? ⟨bm,2,none⟩=some (.slice p'.s3 D.mem.length p'.c3)∧w'.cell? ⟨bm,3,none⟩=some (.slice p'.s4 D.tr.length p'.c4)) (go_keep) (fail)
    all_goals
     go_wp2
     obtain ⟨Z,hZ,xZ,mZ,sZ,fZ,bZ⟩:=X4.put4 (.slice p'.s1 D.codes.length p'.c1) (.slice p'.s2 D.cores.length p'.c2) (.slice p'.s3 D.mem.length p'.c3) (.slice p'.s4 D.tr.length p'.c4) BCR.out.x MO.out.ma (by have:=ZW.out;omega)
     refine bodyPost_ret (v:=.tuple #[.slice s' C.length c',.agg #[.slice p'.s1 D.codes.length p'.c1,.slice p'.s2 D.cores.length p'.c2,.slice p'.s3 D.mem.length p'.c3,.slice p'.s4 D.tr.length p'.c4],.bool true]) ?_ rfl ?_
     ·rw [hZ]
      simp [results,Tryz.results18,go_sem,xZ.x.c0,xZ.x.c1,xZ.x.c2,xZ.x.c3]
     rw [hZ]
     have ez:Z.drew.heap.size=Z.heap.size:=rfl
     exact ⟨p',D,_,true,rfl,(mZ.keep (Keep.of_below ((Below.refl Z.heap.size Z).drew) (by omega))).mono (by have:=ZW.out;omega) (by omega),SZ.out,fun _=>CL.out,(bZ _ _ (KT.out _ RK.out.k) (by omega)).drew⟩
end
section
set_option linter.unusedSimpArgs false
set_option linter.unusedVariables false
set_option maxRecDepth 100000
open Go.RowKit Go.Deep
theorem prog_ok {pd:PD} (h1:1≤pd.caps.length∧pd.caps.length≤3) (h2:1≤pd.bods.length∧pd.bods.length≤4) (h3:CapsOk pd.caps) (h4:BodsOk pd.bods pd.caps.length):progB pd=true:=by
 unfold progB capsB bodsB
 simp only [Bool.and_eq_true,decide_eq_true_eq]
 refine ⟨fun i hi=>?_,fun i hi=>?_,h1.2,?_⟩
 ·have:=h3 (pd.caps.getD i 0) (by rw [List.getD_eq_getElem?_getD,List.getElem?_eq_getElem hi];exact List.getElem_mem hi)
  exact decide_eq_true ⟨this.1,this.2⟩
 ·exact (h4 (pd.bods.getD i []) (by rw [List.getD_eq_getElem?_getD,List.getElem?_eq_getElem hi];exact List.getElem_mem hi)).1
 ·exact decide_eq_true ⟨by omega,by omega⟩
theorem fits_ok {pd:PD} (h1:pd.caps.length≤3) (h2:pd.bods.length≤4) (h4:BodsOk pd.bods pd.caps.length):Fits pd:=by
 refine ⟨by omega,by omega,fun i hi=>?_⟩
 have e:=List.getElem_mem hi
 have q:=(h4 _ e).2
 rw [List.getD_eq_getElem?_getD,List.getElem?_eq_getElem hi]
 simp only [Option.getD_some]
 omega
structure StW (V X:World) (p:Nat) (s:Option Addr) (n c:Nat) (pB:Option Nat):Prop where
 cb:CBx158 X p s n c
 bt:But p V X
 b:BoxAt X pB
 lo:∀ b,pB=some b→V.heap.size≤b
theorem StW.bel {V X Y:World} {p n c:Nat} {s:Option Addr} {pB:Option Nat} (h:StW V X p s n c pB) (hb:Below X.heap.size X Y):StW V Y p s n c pB:=
 ⟨h.cb.keep hb,h.bt.trans (But.of_below hb),h.b.keep hb,h.lo⟩
theorem StW.drew {V X:World} {p n c:Nat} {s:Option Addr} {pB:Option Nat} (h:StW V X p s n c pB):StW V X.drew p s n c pB:=h.bel ((Below.refl _ _).drew)
theorem StW.made {V X:World} {p n c:Nat} {s:Option Addr} (h:StW V X p s n c none):StW V (X.alloc (.cells #[.slice none 0 0,.slice none 0 0,.slice none 0 0,.slice none 0 0] 35)) p s n c (some X.heap.size):=by
 have hb:Below X.heap.size X (X.alloc (.cells #[.slice none 0 0,.slice none 0 0,.slice none 0 0,.slice none 0 0] 35)):=(Below.refl _ _).alloc (Nat.le_refl _) _
 exact ⟨h.cb.keep hb,h.bt.trans (But.of_below hb),boxN0 X,fun b e=>by injection e with e;subst e;exact h.bt.size⟩
theorem StW.lt {V X:World} {p n c:Nat} {s:Option Addr} {pB:Option Nat} (h:StW V X p s n c pB):∀ b,pB=some b→b < X.heap.size:=by
 intro b e
 subst e
 exact h.b.1.x.z
theorem StW.but {V X Y:World} {p n c:Nat} {s:Option Addr} {pB:Option Nat} (h:StW V X p s n c pB) (hp:p < V.heap.size) (hc:CBx158 Y p s n c) (hb:But p X Y):StW V Y p s n c pB:=by
 refine ⟨hc,h.bt.trans hb,?_,h.lo⟩
 cases pB with
 | none=>trivial
 | some b=>
  have hl:=h.lo b rfl
  have e:=hb.block b (h.lt b rfl) (by omega)
  exact ⟨h.b.1.blk e hb.size,h.b.2.same e⟩
structure PkW (V X:World) (p:Nat) (s:Option Addr) (n c:Nat) (pB:Option Nat) (sp:Option Addr) (lp:List ND):Prop where
 st:StW V X p s n c pB
 nt:NtsR X 0 X.heap.size sp lp
 le:lp.length≤240
 v3:∀ x∈lp,x.v≤3
theorem PkW.made {V X:World} {p n c:Nat} {s sp:Option Addr} {lp:List ND} (h:PkW V X p s n c none sp lp):PkW V (X.alloc (.cells #[.slice none 0 0,.slice none 0 0,.slice none 0 0,.slice none 0 0] 35)) p s n c (some X.heap.size) sp lp:=by
 have hb:Below X.heap.size X (X.alloc (.cells #[.slice none 0 0,.slice none 0 0,.slice none 0 0,.slice none 0 0] 35)):=(Below.refl _ _).alloc (Nat.le_refl _) _
 exact ⟨h.st.made,(h.nt.keep (Keep.of_below hb (Nat.le_refl _))).mono (Nat.zero_le _) hb.size,h.le,h.v3⟩
theorem picksW (p : Nat) (s : Option Addr) (n c k : Nat) (most : Int) {V X : World} {pB : Option Nat} (h : StW V X p s n c pB) (hp : p < V.heap.size) (hk : k ≤ 4) (hm0 : 0 ≤ most) (hm : most ≤ 40) :
  Calls Tryz.prog 19 #[.pointer (some ⟨p,0,none⟩),.int .i64 k,.int .i64 most] X fun e w'=>∃ (sp:Option Addr) (cp:Nat) (lp:List ND),e=.returned (.slice sp lp.length cp)∧PkW V w' p s n c pB sp lp:=by
 refine (drawPicks_ok p s n c k most X h.cb (by omega) hm0 hm).mono ?_
 rintro e w' ⟨v,l,rfl,hpk⟩
 obtain ⟨sp,cp,ep,nt⟩:=hpk.o.nts
 subst ep
 exact ⟨sp,cp,l,rfl,h.but hp hpk.cb hpk.bt,nt.mono (Nat.zero_le _) (Nat.le_refl _),hpk.le,fun x hx=>(hpk.v3 x hx).2⟩
structure RwW (V X:World) (p:Nat) (s:Option Addr) (n c:Nat) (pB:Option Nat) (P:PD) (q:MP) (D:MD) (ok:Bool):Prop where
 st:StW V X p s n c pB
 m:∃ lo,(∀ b,pB=some b→b < lo)∧V.heap.size≤lo∧MaR X lo X.heap.size q.s1 q.s2 q.s3 q.s4 D
 sz:MaSz D≤40000
 ok:ok=true→D.cores.length=P.bods.length
theorem witW {V X : World} {p n c lo hi c0 c1 cp : Nat} {s s0 s1 sp : Option Addr} {pB : Option Nat} {lp : List ND} {P : PD} (h : PkW V X p s n c pB sp lp) (hP : ProgR V lo hi s0 s1 P) (hlo : p < lo) (hhi : hi ≤ V.heap.size) (hf : Fits P) (hb : progB P = true) :
  Calls Tryz.prog 18 #[.agg #[.slice s0 P.caps.length c0,.slice s1 P.bods.length c1],.slice sp lp.length cp] X fun e w'=>∃ (v:Value) (q:MP) (D:MD) (ok:Bool),e=.returned (.tuple #[v,.agg #[.slice q.s1 D.codes.length q.c1,.slice q.s2 D.cores.length q.c2,.slice q.s3 D.mem.length q.c3,.slice q.s4 D.tr.length q.c4],.bool ok])∧RwW V w' p s n c pB P q D ok:=by
 have zs:=h.st.bt.size
 have kp:Keep lo hi V X:=fun b b1 b2=>h.st.bt.block b (by omega) (by omega)
 refine (specWit_any s0 s1 sp c0 c1 cp lo hi 0 X.heap.size P lp X (ProgR.keep' hP kp) (by omega) hf hb h.nt (Nat.le_refl _) (by have:=h.le;omega) (fun x hx=>by have:=h.v3 x hx;omega)).mono ?_
 rintro e w' ⟨q,D,v,ok,rfl,hm,hsz,hok,hbl⟩
 exact ⟨v,q,D,ok,rfl,h.st.bel hbl,⟨X.heap.size,h.st.lt,zs,hm⟩,hsz,hok⟩
def CutW (V:World) (p:Nat) (s:Option Addr) (n c:Nat) (P:PD) (s8 s9:Value) (wx:World):Prop:=∃ (bo:Nat) (q:MP) (D:MD) (ok:Bool),s8=.pointer (some ⟨bo,0,none⟩)∧s9=.bool ok∧V.heap.size≤bo∧X4 wx bo (.slice q.s1 D.codes.length q.c1) (.slice q.s2 D.cores.length q.c2) (.slice q.s3 D.mem.length q.c3) (.slice q.s4 D.tr.length q.c4)∧MaR wx V.heap.size wx.heap.size q.s1 q.s2 q.s3 q.s4 D∧MaSz D≤40000∧(ok=true→D.cores.length=P.bods.length)∧CBx158 wx p s n c∧But p V wx
theorem cutW_new {V wM:World} {p n c:Nat} {s:Option Addr} {pB:Option Nat} {P:PD} {q:MP} {D:MD} {ok:Bool} (o:RwW V wM p s n c pB P q D ok):CutW V p s n c P (.pointer (some ⟨wM.heap.size,0,none⟩)) (.bool ok) (wM.alloc (.cells #[.slice q.s1 D.codes.length q.c1,.slice q.s2 D.cores.length q.c2,.slice q.s3 D.mem.length q.c3,.slice q.s4 D.tr.length q.c4] 35)):=by
 obtain ⟨lo,-,h2,m⟩:=o.m
 obtain ⟨Y,hY,x,kY,-⟩:=X4.new wM (.slice q.s1 D.codes.length q.c1) (.slice q.s2 D.cores.length q.c2) (.slice q.s3 D.mem.length q.c3) (.slice q.s4 D.tr.length q.c4) 35
 rw [hY]
 exact ⟨_,q,D,ok,rfl,rfl,o.st.bt.size,x,MaR.mono (m.keep (Keep.of_below kY (Nat.le_refl _))) h2 kY.size,o.sz,o.ok,o.st.cb.keep kY,o.st.bt.trans (But.of_below kY)⟩
theorem cutW_set {V wM:World} {p n c bo:Nat} {s:Option Addr} {P:PD} {q:MP} {D:MD} {ok:Bool} (hp:p < V.heap.size) (o:RwW V wM p s n c (some bo) P q D ok):CutW V p s n c P (.pointer (some ⟨bo,0,none⟩)) (.bool ok) ((((wM.setCell ⟨bo,0,none⟩ (.slice q.s1 D.codes.length q.c1)).setCell ⟨bo,1,none⟩ (.slice q.s2 D.cores.length q.c2)).setCell ⟨bo,2,none⟩ (.slice q.s3 D.mem.length q.c3)).setCell ⟨bo,3,none⟩ (.slice q.s4 D.tr.length q.c4)):=by
 obtain ⟨lo,h1,h2,m⟩:=o.m
 obtain ⟨Y,hY,xY,mY,sY,fY,bY⟩:=X4.put4 (.slice q.s1 D.codes.length q.c1) (.slice q.s2 D.cores.length q.c2) (.slice q.s3 D.mem.length q.c3) (.slice q.s4 D.tr.length q.c4) (boxSome o.st.b).1 m (h1 bo rfl)
 rw [hY]
 have hl:=o.st.lo bo rfl
 have kY:=bY _ _ (Below.refl V.heap.size wM) hl
 exact ⟨bo,q,D,ok,rfl,rfl,hl,xY,MaR.mono mY h2 (by omega),o.sz,o.ok,o.st.cb.keepB kY hp,but_low o.st.bt kY⟩
end
end Go.Proofs.YtkhjhibigldcgaaGreat
