/- MachineNew of the specification: its machine is owned whole. Conditions: at most 2^20 cells of code. Launch of the specification: its machine is owned whole. Conditions: the program fits. PlaceOf of the program: the place that a step belongs to, out of the map of first steps. Conditions: programs that fit. -/
import Derived.Test.YtkhjhibigldcgaaGreatBG00
import Derived.Test.YtkhjhibigldcgaaGreatBG08
import Derived.Test.YtkhjhibigldcgaaGreatBG12
import Derived.Test.YtkhjhibigldcgaaGreatBG07
import Derived.Test.YtkhjhibigldcgaaGreatBG10
import Derived.Test.YtkhjhibigldcgaaGreatBG11
import Derived.Test.YtkhjhibigldcgaaGreatBG04
import Derived.Test.YtkhjhibigldcgaaGreatBG01
import Derived.Test.YtkhjhibigldcgaaGreatBG13
import Derived.Test.YtkhjhibigldcgaaGreatBG14
import Derived.Test.YtkhjhibigldcgaaGreatBG17
import Derived.Test.YtkhjhibigldcgaaGreatBG05
import Derived.Test.YtkhjhibigldcgaaGreatBG16
import Derived.Test.YtkhjhibigldcgaaGreatBP11CmS
namespace Go.Proofs.YtkhjhibigldcgaaGreat
section
set_option linter.unusedSimpArgs false
set_option linter.unusedVariables false
set_option maxRecDepth 100000
open Go.RowKit
set_option maxHeartbeats 4000000 in
theorem specMachNewW_any (s : Option Addr) (c lo hi : Nat) (l : List (List I5)) (w : World) (h : CsR w lo hi s l) (hB : hi ≤ w.heap.size) (hl : l.length + szC l ≤ 1048576) :
  Calls Tryz.prog 20 #[.slice s l.length c] w fun e w'=>∃ p:MP,e=.returned (.tuple #[.agg #[.slice p.s1 (newMa l).codes.length p.c1,.slice p.s2 (newMa l).cores.length p.c2,.slice p.s3 (newMa l).mem.length p.c3,.slice p.s4 (newMa l).tr.length p.c4],.bool (codesB l)])∧MaO w' w.heap.size w'.heap.size p (newMa l)∧Below w.heap.size w w'∧(codesB l=true→∃ LC LK S,MQ0 w' w.heap.size (.slice p.s1 (newMa l).codes.length p.c1) (.slice p.s2 (newMa l).cores.length p.c2) (.slice p.s3 (newMa l).mem.length p.c3) (.slice p.s4 (newMa l).tr.length p.c4) LC LK S (newMa l)):=by
 have H:Hid (CsR w lo hi s l):=h
 have h8:∀ w:World,(Instr.makeSlice 24 (.int .i64 8) (.int .i64 8)).run Tryz.prog w=.ok (.slice (some ⟨w.heap.size,0,none⟩) 8 8) (w.alloc (.cells (madeCells #[.int .i64 0] 8) 3)):=fun w=>mkInt 8 (by omega) w
 have h24:∀ w:World,(Instr.makeSlice 24 (.int .i64 24) (.int .i64 24)).run Tryz.prog w=.ok (.slice (some ⟨w.heap.size,0,none⟩) 24 24) (w.alloc (.cells (madeCells #[.int .i64 0] 24) 3)):=fun w=>mkInt 24 (by omega) w
 clear h
 go_enter Tryz.func20,Tryz.ntmps20
 go_wp2_with fail
 obtain ⟨W0,hW0,x0,k0,z0⟩:=X4.new w (.slice none 0 0) (.slice none 0 0) (.slice none 0 0) (.slice none 0 0) 35
 rw [hW0]
 clear hW0
 obtain ⟨w1,hw1⟩:∃ w1,w1=W0:=⟨_,rfl⟩
 have K1:Hid (Below w.heap.size w w1):=by rw [hw1];exact k0
 have R1:Hid (X4 w1 w.heap.size (.slice none 0 0) (.slice none 0 0) (.slice none 0 0) (.slice none 0 0)):=by rw [hw1];exact x0
 have z1:w.heap.size < w1.heap.size:=by rw [hw1];exact z0
 rw [← hw1]
 clear hw1 x0 k0 z0
 refine (l8Codes_any s c lo hi l w1 (H.out.keep (Keep.of_below K1.out hB)) (by omega) hl).mono ?_
 rintro e w2 ⟨vc,LC,rfl,hm2,ho2,hb2⟩
 have K2:Hid (Below w.heap.size w w2):=K1.out.trans (hb2.mono (by omega))
 have R2:Hid (X4 w2 w.heap.size (.slice none 0 0) (.slice none 0 0) (.slice none 0 0) (.slice none 0 0)):=R1.out.keep hb2 (by omega)
 obtain ⟨sc,cc,RC,evc,gc⟩:=ho2.go
 have e2:LC.length=l.length:=by have:=congrArg List.length hm2;simpa using this
 rw [e2] at evc
 have G2:Hid (GO w2 w1.heap.size w2.heap.size sc TC RC (l.map codeV)):=by
  have e:LC.map (fun x=>codeV x.l)=l.map codeV:=by
   rw [← hm2,List.map_map]
   rfl
  show GO _ _ _ _ _ _ _
  rw [← e]
  exact gc
 have z2:=hb2.size
 have EL:Hid (LC.map CV.l=l):=hm2
 have OC:Hid (OwnC w2 w1.heap.size vc LC):=ho2
 clear hm2 ho2 hb2 R1 e2 gc
 subst evc
 go_wp2_with fail
 refine (specNewW_any w2).mono ?_
 rintro e w3 ⟨sm,cm,S,rfl,hm3,hb3⟩
 have z3:=hb3.size
 have K3:Hid (Below w.heap.size w w3):=K2.out.trans (hb3.mono (by omega))
 have R3:Hid (X4 w3 w.heap.size (.slice none 0 0) (.slice none 0 0) (.slice none 0 0) (.slice none 0 0)):=R2.out.keep hb3 (by omega)
 have G3:Hid (GO w3 w1.heap.size w2.heap.size sc TC RC (l.map codeV)):=G2.out.keep (Keep.of_below hb3 (Nat.le_refl _))
 have W3O:Hid (OW w3 w2.heap.size (.slice sm 24 cm) S (newM 24)):=hm3
 have M3:Hid (MO w3 w2.heap.size w3.heap.size sm S (newM 24)):=by
  obtain ⟨s',c',e',mo⟩:=hm3.om.mo
  rw [newM_len] at e'
  injection e' with e1 _ _
  subst e1
  exact mo
 have OC3:Hid (OwnC w3 w1.heap.size (.slice sc l.length cc) LC):=OC.out.keep (fun b _ h1=>hb3.block b h1)
 have hb3z:Hid (w2.heap.size≤w3.heap.size):=z3
 clear hm3 hb3 R2 G2 OC
 go_wp2
 obtain ⟨W4,hW4,xm,km,zm⟩:=X4.new w3 (.slice sc l.length cc) (.slice none 0 0) (.slice sm 24 cm) (.slice none 0 0) 35
 rw [hW4]
 clear hW4
 obtain ⟨bm,hbm,hbm1,hbm2⟩:∃ b,w3.heap.size=b∧w3.heap.size≤b∧b≤w3.heap.size:=⟨_,rfl,Nat.le_refl _,Nat.le_refl _⟩
 rw [hbm] at xm km zm
 have XM:Hid (X4 W4 bm (.slice sc l.length cc) (.slice none 0 0) (.slice sm 24 cm) (.slice none 0 0)):=xm
 have KM:Hid (Below bm w3 W4):=km
 have ZM:bm+1≤W4.heap.size:=zm
 rw [hbm]
 clear xm km hbm zm
 go_loopw [5] (fun i wr=>∃ (k:Nat) (v:Value) (L:List KV),k≤l.length∧i=.int .i64 k∧L.length=k∧L.map KV.d=List.replicate k zKD∧OwnKx117 wr (bm+1) v L∧X4 wr bm (.slice sc l.length cc) v (.slice sm 24 cm) (.slice none 0 0)∧Below bm w3 wr∧bm+1≤wr.heap.size) (fun i _=>l.length - (intOf i).toNat)
 case atStart=>exact ⟨0,_,[],Nat.zero_le _,rfl,rfl,rfl,OwnKx117.nil _ _,XM.out,KM.out,ZM⟩
 case round=>
  obtain ⟨k,v,L,hk,rfl,hL,hD,ho,hx,hb,hz⟩:=hrel
  obtain ⟨sv,cv,ev⟩:=ownSl ho.row
  rw [hL] at ev
  subst ev
  have HO:Hid (OwnKx117 wr (bm+1) (.slice sv k cv) L):=ho
  have HX:Hid (X4 wr bm (.slice sc l.length cc) (.slice sv k cv) (.slice sm 24 cm) (.slice none 0 0)):=hx
  have HB:Hid (Below bm w3 wr):=hb
  have HL:Hid (L.length=k):=hL
  have HD:Hid (L.map KV.d=List.replicate k zKD):=hD
  obtain ⟨y0,y1,y2,y3,y4⟩:=hx.x
  have yf:=hx.fz
  clear ho hb hL hD hx
  by_cases hlt:k < l.length
  ·have b1:(k:Int) < (l.length:Int):=by omega
   go_wp2
   have HOA:Hid (OwnKx117 (WA wr.drew) (bm+1) (.slice sv k cv) L):=(HO.out.below (Below.drew (Below.refl _ _))).below (WA_below _)
   have HOB:Hid (OwnKx117 (WB wr.drew) (bm+1) (.slice sv k cv) L):=(HO.out.below (Below.drew (Below.refl _ _))).below (WB_below _)
   have HLn:L.length≤1073741824:=by have:=HL.out;omega
   have zs:bm+1≤wr.drew.heap.size:=hz
   have zb1:bm < wr.heap.size+1:=by omega
   have zb2:bm < wr.heap.size+1+1:=by omega
   go_region_law (first | (refine step_recK rfl _ _ rfl (WA wr.drew) (bm+1) (.slice sv k cv) L (yA wr.drew) rfl HOA.out (WA_own zs) (new_two (.inl rfl)) rfl rfl (wr.heap.size+1+1) (by rw [WA_size];rfl) rfl HLn (by rw [WA_size];omega) (new_sep (HO.out.below (Below.drew (Below.refl _ _))) (.inl rfl)) ?_;intro g6 c6 w6 hp6;have Y6:=(show Hid (∃ y:KV,y.d=zKD∧OwnKx117 w6 (bm+1) (.slice (some ⟨g6,0,none⟩) (L.length+1) c6) (L++[y])) from ⟨yA wr.drew,rfl,hp6.own⟩);have K6:=(show Below (bm+1) wr w6 from ((Below.drew (Below.refl (bm+1) wr)).trans ((WA_below wr.drew).mono zs)).trans hp6.low);have X6:=HX.out.keep K6 (show bm < bm+1 by omega);have t1:=X6.x.c1;have t2:=X6.fz 1;clear hp6) | (refine step_recK rfl _ _ rfl (WB wr.drew) (bm+1) (.slice sv k cv) L (yB wr.drew) rfl HOB.out (WB_own zs) (new_two (.inr rfl)) rfl rfl (wr.heap.size+1+1) (by rw [WB_size];rfl) rfl HLn (by rw [WB_size];omega) (new_sep (HO.out.below (Below.drew (Below.refl _ _))) (.inr rfl)) ?_;intro g6 c6 w6 hp6;have Y6:=(show Hid (∃ y:KV,y.d=zKD∧OwnKx117 w6 (bm+1) (.slice (some ⟨g6,0,none⟩) (L.length+1) c6) (L++[y])) from ⟨yB wr.drew,rfl,hp6.own⟩);have K6:=(show Below (bm+1) wr w6 from ((Below.drew (Below.refl (bm+1) wr)).trans ((WB_below wr.drew).mono zs)).trans hp6.low);have X6:=HX.out.keep K6 (show bm < bm+1 by omega);have t1:=X6.x.c1;have t2:=X6.fz 1;clear hp6))
   all_goals
    have XX:Hid (X4 w6 bm (.slice sc l.length cc) (.slice sv k cv) (.slice sm 24 cm) (.slice none 0 0)):=X6
    have KK:Hid (Below (bm+1) wr w6):=K6
    have z6:=K6.size
    clear X6 K6 y1 y2 y3 y4 yf
    go_wp2
    go_roundw
    case rel=>
     obtain ⟨y,hy,oy⟩:=Y6.out
     refine ⟨k+1,_,L++[y],by omega,by go_num,by simp [HL.out],?_,oy.keep (fun b hb _=>Below.heap_setCell _ _ _ b (by show b≠bm;omega)),XX.out.set1,(HB.out.trans (KK.out.mono (by omega))).setCell (p:=⟨bm,1,none⟩) (Nat.le_refl _) _,by simp;omega⟩
     rw [List.map_append,HD.out,List.replicate_succ']
     simp [hy]
    case measure=>simp [intOf];omega
  ·have e:k=l.length:=by omega
   subst e
   obtain ⟨sk,ck,RK,evk,gk,-⟩:=HO.out.go
   have kn:=HL.out
   rw [kn] at evk
   injection evk with evk1 _ evk2
   subst evk1 evk2
   have GK:Hid (GO wr (bm+1) wr.heap.size sv TK RK ((newMd l).cores.map coreV)):=by
    have e:L.map (fun x=>coreV x.d)=(newMd l).cores.map coreV:=by
     have q:=HD.out
     show _=(List.replicate l.length zKD).map coreV
     rw [← q,List.map_map]
     rfl
    show GO _ _ _ _ _ _ _
    rw [← e]
    exact gk
   have km:∀ {a b:Nat},b≤bm→Keep a b w3 wr:=fun h2 k h3 h4=>HB.out.block k (by omega)
   have MR:Hid (MaR wr w.heap.size wr.heap.size sc sv sm none (newMd l)):=⟨((G3.out.keep (km (by omega))).csR (l:=l)).mono (by omega) (by omega),GK.out.ksR.mono (by omega) (Nat.le_refl _),((M3.out.keep (km (by omega))).mem).mono (by omega) (by omega),.inl rfl⟩
   clear gk km
   have zw:w.heap.size < wr.heap.size:=by omega
   go_wp2_with fail
   refine (specMachNew_ok sc sv sm cc cv cm w.heap.size wr.heap.size l wr MR.out (Nat.le_refl _) hl).mono ?_
   rintro e wq ⟨rfl,hbq⟩
   have rx:=(R3.out.keep HB.out (by omega)).keep hbq zw
   obtain ⟨r0,r1,r2,r3,r4⟩:=rx.x
   have rf:=rx.fz
   have RX:Hid (X4 wq w.heap.size (.slice none 0 0) (.slice none 0 0) (.slice none 0 0) (.slice none 0 0)):=rx
   have xm:=HX.out.keep hbq y0
   have mf:=xm.fz
   clear y1 y2 y3 y4 yf
   obtain ⟨y0',y1,y2,y3,y4⟩:=xm.x
   have zq:=hbq.size
   have HQ:Hid (Below wr.heap.size wr wq):=hbq
   have zw':w.heap.size < wq.heap.size:=by omega
   clear hbq rx xm
   cases hc:codesB l
   ·go_wp2
    have xz:=RX.out.set0 (u:=.slice none 0 0) |>.set1 (u:=.slice none 0 0) |>.set2 (u:=.slice none 0 0) |>.set3 (u:=.slice none 0 0)
    refine bodyPost_ret (v:=.tuple #[.agg #[.slice none 0 0,.slice none 0 0,.slice none 0 0,.slice none 0 0],.bool false]) (by simp [results,Tryz.results20,go_sem,xz.x.c0,xz.x.c1,xz.x.c2,xz.x.c3]) rfl ⟨noMP,?_,?_,?_,fun h=>absurd h (by rw [hc];simp)⟩
    ·unfold newMa
     rw [hc]
     rfl
    ·unfold newMa
     rw [hc]
     exact noMa _ _ _
    ·refine Below.setCell (Below.setCell (Below.setCell (Below.setCell (((K3.out.trans (HB.out.mono (by omega)))).trans (HQ.out.mono (by omega))) ?_ _) ?_ _) ?_ _) ?_ _<;>simp
   go_wp2
   obtain ⟨Z,hZ,xz,kz,sz,fz⟩:∃ Z,(((wq.setCell ⟨w.heap.size,0,none⟩ (.slice sc l.length cc)).setCell ⟨w.heap.size,1,none⟩ (.slice sv l.length cv)).setCell ⟨w.heap.size,2,none⟩ (.slice sm 24 cm)).setCell ⟨w.heap.size,3,none⟩ (.slice none 0 0)=Z∧X4 Z w.heap.size (.slice sc l.length cc) (.slice sv l.length cv) (.slice sm 24 cm) (.slice none 0 0)∧Below w.heap.size w Z∧Z.heap.size=wq.heap.size∧∀ k,k≠w.heap.size→Z.heap[k]? =wq.heap[k]? :=by
    refine ⟨_,rfl,RX.out.set0.set1.set2.set3,?_,by simp,fun k hk=>?_⟩
    ·refine Below.setCell (Below.setCell (Below.setCell (Below.setCell ((K3.out.trans (HB.out.mono (by omega))).trans (HQ.out.mono (by omega))) ?_ _) ?_ _) ?_ _) ?_ _<;>simp
    ·rw [Below.heap_setCell _ _ _ k hk,Below.heap_setCell _ _ _ k hk,Below.heap_setCell _ _ _ k hk,Below.heap_setCell _ _ _ k hk]
   have kp:∀ {a b:Nat},w.heap.size < a→b≤bm→Keep a b w3 Z:=fun h1 h2 k h3 h4=>((fz k (by omega)).trans (HQ.out.block k (by omega))).trans (HB.out.block k (by omega))
   have mo:MaO Z w.heap.size Z.heap.size ⟨sc,cc,RC,sv,cv,RK,sm,cm,S,none,0⟩ (newMd l):=
    MaO.of3 (G3.out.keep (kp (by omega) (by omega))) (M3.out.keep (kp (by omega) (by omega))) (GK.out.keep (fun k h3 h4=>(fz k (by omega)).trans (HQ.out.block k h4))) rfl (by omega) (by omega) (by omega) (by omega)
   refine bodyPost_ret (v:=.tuple #[.agg #[.slice sc l.length cc,.slice sv l.length cv,.slice sm 24 cm,.slice none 0 0],.bool true]) ?_ rfl ?_
   ·rw [hZ]
    simp [results,Tryz.results20,go_sem,xz.x.c0,xz.x.c1,xz.x.c2,xz.x.c3]
   ·rw [hZ]
    unfold newMa
    rw [hc]
    refine ⟨⟨sc,cc,RC,sv,cv,RK,sm,cm,S,none,0⟩,?_,mo,kz,fun _=>?_⟩
    ·simp [newMd,newM_len]
    ·have wb:=hb3z.out
     have fk:∀ q,w.heap.size < q→q < wr.heap.size→Z.heap[q]? =wr.heap[q]? :=fun q h1 h2=>(fz q (by omega)).trans (HQ.out.block q h2)
     have f3:∀ q,w.heap.size < q→q < w3.heap.size→Z.heap[q]? =w3.heap[q]? :=fun q h1 h2=>(fk q h1 (by omega)).trans (HB.out.block q (by omega))
     have zz:wr.heap.size≤Z.heap.size:=by omega
     have ow:OW Z w2.heap.size (.slice sm 24 cm) S (newM 24):=W3O.out.kept (fun q h1 h2=>f3 q (by omega) h2) (by omega)
     have ok:OwnKx117 Z (bm+1) (.slice sv l.length cv) L:=HO.out.keep (fun q h1 h2=>fk q (by omega) h2)
     refine ⟨LC,L,S,(OC3.out.keep (fun q h1 h2=>f3 q (by omega) h2)).low (by omega),EL.out,?_,HD.out,ow.low (by omega),World.ownsRow_nil _ _ _ _,fun i x q hx hq a ha e=>?_⟩
     ·have q:=ok.low (b':=w.heap.size) (by omega)
      simpa [newMd] using q
     ·have h1:=(W3O.out.om.blk ha).2
      have h2:bm+1≤q:=hq.elim (fun h=>(World.ownsRow.lt (HO.out.inn i x hx).1 q h).1) (fun h=>(World.ownsRow.lt (HO.out.inn i x hx).2 q h).1)
      omega
end
section
set_option linter.unusedSimpArgs false
set_option linter.unusedVariables false
set_option maxRecDepth 100000
open Go.RowKit
structure Small6 (bs:List (List I5)):Prop where
 n:bs.length≤4
 l:∀ i,i < bs.length→(bs.getD i []).length≤960
theorem cpM_small (p:PD):Small6 (cpM p).1:=by
 unfold cpM
 split
 ·rename_i h
  have hl:=progB_len h.1
  refine ⟨by rw [cdL_len];omega,fun i hi=>?_⟩
  rw [cdL_len] at hi
  rw [cdL_at p hi]
  have a:=cdM_len p.caps (p.bods.getD i []) (p.bods.getD i []).length
  have b:=(progB_body h.1 hi).1.len
  unfold cdAt
  omega
 ·exact ⟨Nat.zero_le _,fun i hi=>absurd hi (Nat.not_lt_zero _)⟩
theorem hidL {p:Prop} (h:p):Hid p:=h
theorem BodsR.cs {w:World} {lo hi:Nat} {s:Option Addr} {l:List (List I5)} (h:BodsR w lo hi s l):CsR w lo hi s l:=by
 rcases h with h | ⟨g,o,hs,a,b,hc⟩
 ·exact .inl h
 ·refine .inr ⟨g,o,hs,a,b,fun i x hx=>?_⟩
  have hl:=(List.getElem?_eq_some_iff.1 hx).1
  have q:=hc i hl
  have e:l.getD i []=x:=by rw [List.getD_eq_getElem?_getD,hx];rfl
  rw [e] at q
  exact q
theorem szC_most:∀ (l:List (List I5)),(∀ (i:Nat) (x:List I5),l[i]? =some x→x.length≤960)→szC l≤960 * l.length
 | [],_=>Nat.zero_le _
 | y::r,h=>by
  have a:=h 0 y rfl
  have b:=szC_most r (fun i x hx=>h (i+1) x (by simpa using hx))
  simp only [szC,List.length_cons]
  omega
theorem small_sz {l:List (List I5)} (h:Small6 l):l.length+szC l≤1048576:=by
 have a:=szC_most l (fun i x hx=>by
  have hl:=(List.getElem?_eq_some_iff.1 hx).1
  have q:=h.l i hl
  rw [List.getD_eq_getElem?_getD,hx] at q
  exact q)
 have b:=h.n
 omega
theorem cpM_off {p:PD} (h:(cpM p).2=false):(cpM p).1=[]:=by
 unfold cpM at h ⊢
 split
 ·rename_i q
  rw [if_pos q] at h
  cases h
 ·rfl
def lauD (p:PD):MD:=newMa (cpM p).1
def lauB (p:PD):Bool:=codesB (cpM p).1
theorem lau_none:codesB []=false∧newMa []=noMd:=⟨rfl,rfl⟩
theorem lau_new (w:World) (a b v0 v1 v2 v3:Value) (S T:TypeId):∃ W,(w.alloc (.cells #[a,b] S)).alloc (.cells #[v0,v1,v2,v3] T)=W∧X4 W (w.heap.size+1) v0 v1 v2 v3∧Below w.heap.size w W∧w.heap.size+1 < W.heap.size∧W.cell? ⟨w.heap.size,0,none⟩=some a∧W.cell? ⟨w.heap.size,1,none⟩=some b:=by
 obtain ⟨W,hW,hx,hb,hz⟩:=X4.new (w.alloc (.cells #[a,b] S)) v0 v1 v2 v3 T
 have e:(w.alloc (.cells #[a,b] S)).heap.size=w.heap.size+1:=by simp
 rw [e] at hx hz hb
 refine ⟨W,hW,hx,((Below.refl _ _).alloc (Nat.le_refl _) _).trans (hb.mono (by omega)),hz,?_,?_⟩
 ·exact (hb.cell (p:=⟨w.heap.size,0,none⟩) (by show w.heap.size < _;omega)).trans (by simp [go_sem])
 ·exact (hb.cell (p:=⟨w.heap.size,1,none⟩) (by show w.heap.size < _;omega)).trans (by simp [go_sem])
theorem lau_end {w2:World} {b lo hi:Nat} {x:MP} {D:MD} (hb:b < lo) (hm:MaO w2 lo hi x D) (u0 u1 u2 u3:Value):MaO ((((w2.setCell ⟨b,0,none⟩ u0).setCell ⟨b,1,none⟩ u1).setCell ⟨b,2,none⟩ u2).setCell ⟨b,3,none⟩ u3) lo hi x D:=
 hm.keep ((((Keep.of_set (by exact hb)).trans (Keep.of_set (by exact hb))).trans (Keep.of_set (by exact hb))).trans (Keep.of_set (by exact hb)))
theorem lau_below {w w2:World} {b B:Nat} (h:Below B w w2) (hb:B≤b) (u0 u1 u2 u3:Value):Below B w ((((w2.setCell ⟨b,0,none⟩ u0).setCell ⟨b,1,none⟩ u1).setCell ⟨b,2,none⟩ u2).setCell ⟨b,3,none⟩ u3):=by
 refine Below.setCell (Below.setCell (Below.setCell (Below.setCell h ?_ _) ?_ _) ?_ _) ?_ _<;>exact hb
theorem specLauW_any (s s' : Option Addr) (c c' lo hi : Nat) (p : PD) (w : World) (h : ProgR w lo hi s s' p) (hB : hi ≤ w.heap.size) (hf : Fits p) :
  Calls Tryz.prog 27 #[.agg #[.slice s p.caps.length c,.slice s' p.bods.length c']] w fun e w'=>∃ x:MP,e=.returned (.tuple #[.agg #[.slice x.s1 (lauD p).codes.length x.c1,.slice x.s2 (lauD p).cores.length x.c2,.slice x.s3 (lauD p).mem.length x.c3,.slice x.s4 (lauD p).tr.length x.c4],.bool (lauB p)])∧MaO w' w.heap.size w'.heap.size x (lauD p)∧Below w.heap.size w w'∧(lauB p=true→∃ LC LK S,MQ0 w' w.heap.size (.slice x.s1 (lauD p).codes.length x.c1) (.slice x.s2 (lauD p).cores.length x.c2) (.slice x.s3 (lauD p).mem.length x.c3) (.slice x.s4 (lauD p).tr.length x.c4) LC LK S (lauD p)):=by
 have CM:=hidL (fun (V:World) (hV:Below w.heap.size w V)=>specCompile_any s s' c c' lo hi p V (ProgR.keep' h (Keep.of_below hV hB)) (by have:=hV.size;omega) hf)
 have HS:=hidL (small_sz (cpM_small p))
 have HO:=hidL (fun q=>cpM_off (p:=p) q)
 unfold lauD lauB
 obtain ⟨L,ob,hL⟩:∃ L ob,cpM p=(L,ob):=⟨_,_,rfl⟩
 rw [hL] at CM HS HO ⊢
 simp only at CM HS HO ⊢
 clear hL h
 cases ob
 ·have e:=HO.out rfl
  subst e
  rw [lau_none.1,lau_none.2]
  go_enter Tryz.func27,Tryz.ntmps27
  go_wp2_with fail
  obtain ⟨W,hW,x0,k0,z0,y0,y1⟩:=lau_new w (.slice s p.caps.length c) (.slice s' p.bods.length c') (.slice none 0 0) (.slice none 0 0) (.slice none 0 0) (.slice none 0 0) 27 35
  rw [hW]
  clear hW
  refine Calls.mono (CM.out W k0) ?_
  rintro e w1 ⟨v,rfl,ho,hb⟩
  have K1:=hidL (k0.trans (hb.mono (by omega)))
  have rx:=x0.keep hb z0
  have RX:=hidL rx
  obtain ⟨r0,r1,r2,r3,r4⟩:=rx.x
  have rf:=rx.fz
  clear ho hb rx x0 k0 y0 y1
  go_wp2
  have xz:=RX.out.set0 (u:=.slice none 0 0) |>.set1 (u:=.slice none 0 0) |>.set2 (u:=.slice none 0 0) |>.set3 (u:=.slice none 0 0)
  refine bodyPost_ret (v:=.tuple #[.agg #[.slice none 0 0,.slice none 0 0,.slice none 0 0,.slice none 0 0],.bool false]) (by simp [results,Tryz.results27,go_sem,xz.x.c0,xz.x.c1,xz.x.c2,xz.x.c3]) rfl ⟨noMP,rfl,noMa _ _ _,?_,fun h=>by cases h⟩
  exact lau_below K1.out (by omega) _ _ _ _
 ·go_enter Tryz.func27,Tryz.ntmps27
  go_wp2_with fail
  obtain ⟨W,hW,x0,k0,z0,y0,y1⟩:=lau_new w (.slice s p.caps.length c) (.slice s' p.bods.length c') (.slice none 0 0) (.slice none 0 0) (.slice none 0 0) (.slice none 0 0) 27 35
  rw [hW]
  clear hW
  refine Calls.mono (CM.out W k0) ?_
  rintro e w1 ⟨v,rfl,ho,hb⟩
  obtain ⟨sv,cv,rfl,hv⟩:=OwnB6.bods ho
  have K1:=hidL (k0.trans (hb.mono (by omega)))
  have X1:=hidL (x0.keep hb z0)
  have z1:=hb.size
  have MN:=hidL (specMachNewW_any sv cv _ _ L w1 hv.cs (Nat.le_refl _) HS.out)
  obtain ⟨D,hD⟩:∃ D,newMa L=D:=⟨_,rfl⟩
  obtain ⟨B,hBB⟩:∃ B,codesB L=B:=⟨_,rfl⟩
  rw [hD,hBB] at MN
  have HD:=hidL hD
  have HBB:=hidL hBB
  clear ho hb hv hD hBB x0 k0 y0 y1
  go_wp2_with fail
  refine Calls.mono MN.out ?_
  rintro e w2 ⟨x,rfl,hx,hb2,hq2⟩
  have HQ2:=hidL hq2
  have HX:=hidL hx
  have HB2:=hidL hb2
  have rx:=X1.out.keep hb2 (by omega)
  have RX:=hidL rx
  have z2:=hb2.size
  obtain ⟨r0,r1,r2,r3,r4⟩:=rx.x
  have rf:=rx.fz
  clear hx hb2 rx hq2
  go_wp2
  have xy:=RX.out.set0 (u:=.slice x.s1 D.codes.length x.c1) |>.set1 (u:=.slice x.s2 D.cores.length x.c2) |>.set2 (u:=.slice x.s3 D.mem.length x.c3) |>.set3 (u:=.slice x.s4 D.tr.length x.c4)
  have ME:=lau_end (b:=w.heap.size+1) (by omega) HX.out (.slice x.s1 D.codes.length x.c1) (.slice x.s2 D.cores.length x.c2) (.slice x.s3 D.mem.length x.c3) (.slice x.s4 D.tr.length x.c4)
  have BE:=lau_below (b:=w.heap.size+1) (K1.out.trans (HB2.out.mono (by omega))) (by omega) (.slice x.s1 D.codes.length x.c1) (.slice x.s2 D.cores.length x.c2) (.slice x.s3 D.mem.length x.c3) (.slice x.s4 D.tr.length x.c4)
  have sE:((((w2.setCell ⟨w.heap.size+1,0,none⟩ (.slice x.s1 D.codes.length x.c1)).setCell ⟨w.heap.size+1,1,none⟩ (.slice x.s2 D.cores.length x.c2)).setCell ⟨w.heap.size+1,2,none⟩ (.slice x.s3 D.mem.length x.c3)).setCell ⟨w.heap.size+1,3,none⟩ (.slice x.s4 D.tr.length x.c4)).heap.size=w2.heap.size:=by simp
  have hE:∀ k,k≠w.heap.size+1→((((w2.setCell ⟨w.heap.size+1,0,none⟩ (.slice x.s1 D.codes.length x.c1)).setCell ⟨w.heap.size+1,1,none⟩ (.slice x.s2 D.cores.length x.c2)).setCell ⟨w.heap.size+1,2,none⟩ (.slice x.s3 D.mem.length x.c3)).setCell ⟨w.heap.size+1,3,none⟩ (.slice x.s4 D.tr.length x.c4)).heap[k]? =w2.heap[k]? :=fun k hk=>(Below.heap_setCell _ ⟨w.heap.size+1,_,none⟩ _ k hk).trans ((Below.heap_setCell _ ⟨w.heap.size+1,_,none⟩ _ k hk).trans ((Below.heap_setCell _ ⟨w.heap.size+1,_,none⟩ _ k hk).trans (Below.heap_setCell _ ⟨w.heap.size+1,_,none⟩ _ k hk)))
  generalize (((w2.setCell ⟨w.heap.size+1,0,none⟩ (.slice x.s1 D.codes.length x.c1)).setCell ⟨w.heap.size+1,1,none⟩ (.slice x.s2 D.cores.length x.c2)).setCell ⟨w.heap.size+1,2,none⟩ (.slice x.s3 D.mem.length x.c3)).setCell ⟨w.heap.size+1,3,none⟩ (.slice x.s4 D.tr.length x.c4)=E at xy ME BE sE hE ⊢
  obtain ⟨Y,hY,kY,zY⟩:∃ Y,E.alloc (.cells #[.slice x.s1 D.codes.length x.c1,.slice x.s2 D.cores.length x.c2,.slice x.s3 D.mem.length x.c3,.slice x.s4 D.tr.length x.c4] 35)=Y∧Below E.heap.size E Y∧E.heap.size < Y.heap.size:=⟨_,rfl,(Below.refl _ _).alloc (Nat.le_refl _) _,by simp⟩
  rw [hY]
  have xz:=xy.keep kY (by omega)
  refine bodyPost_ret (v:=.tuple #[.agg #[.slice x.s1 D.codes.length x.c1,.slice x.s2 D.cores.length x.c2,.slice x.s3 D.mem.length x.c3,.slice x.s4 D.tr.length x.c4],.bool B]) (by simp [results,Tryz.results27,go_sem,xz.x.c0,xz.x.c1,xz.x.c2,xz.x.c3]) rfl ⟨x,?_,?_,?_,?_⟩
  ·rw [HD.out,HBB.out]
  ·rw [HD.out]
   exact (ME.keep (Keep.of_below kY (by omega))).mono (by omega) (by omega)
  ·exact BE.trans (kY.mono (by omega))
  ·rw [HD.out,HBB.out]
   intro hB
   obtain ⟨LC,LK,S,q⟩:=HQ2.out hB
   exact ⟨LC,LK,S,(q.keep (w':=Y) (fun k h1 h2=>(kY.block k (by omega)).trans (hE k (by omega))) (by omega)).low (by omega)⟩
end
section
set_option linter.unusedSimpArgs false
set_option linter.unusedVariables false
set_option maxRecDepth 100000
open Go.RowKit Go.Maps
def placeV (l:List I5) (q:Int):Int×Bool:=match (List.range l.length).find? (fun i=>decide (stV l i≤q∧q < stV l (i+1))) with
 | some i=>((i:Int),decide (stV l i=q))
 | none=>(-1,false)
theorem placeV_at {l:List I5} (h:Rt l) {q:Int} {i:Nat} (hi:i < l.length) (a1:stV l i≤q) (a2:q < stV l (i+1)):placeV l q=((i:Int),decide (stV l i=q)):=by
 unfold placeV
 have:(List.range l.length).find? (fun i=>decide (stV l i≤q∧q < stV l (i+1)))=some i:=by
  cases hf:(List.range l.length).find? (fun i=>decide (stV l i≤q∧q < stV l (i+1))) with
  | none=>
   have:=List.find?_eq_none.1 hf i (List.mem_range.2 hi)
   exact absurd (decide_eq_true ⟨a1,a2⟩) this
  | some j=>
   have h1:=List.find?_some hf
   have h2:=List.mem_range.1 (List.mem_of_find?_eq_some hf)
   simp only [decide_eq_true_eq] at h1
   rw [place_one h hi h2 a1 a2 h1.1 h1.2]
 rw [this]
theorem placeV_no {l:List I5} (h:Rt l) {q:Int} (hq:¬ (0≤q∧q < stV l l.length)):placeV l q=(-1,false):=by
 unfold placeV
 have:(List.range l.length).find? (fun i=>decide (stV l i≤q∧q < stV l (i+1)))=none:=by
  refine List.find?_eq_none.2 fun i hi=>?_
  have hi':=List.mem_range.1 hi
  simp only [decide_eq_true_eq]
  rintro ⟨h1,h2⟩
  have b:=stV_bd h i (by omega)
  refine hq ⟨by omega,?_⟩
  rcases Nat.lt_or_ge (i+1) l.length with h3 | h3
  ·have:=stV_lt h l.length h3 (Nat.le_refl _);omega
  ·have:i+1=l.length:=by omega
   rw [← this];exact h2
 rw [this]
structure PlI (l:List I5) (q:Int) (left:Lit→Bool) (own:Int):Prop where
 at':∃ i,i < l.length∧own=stV l i∧own≤q
 top:∀ j,j < l.length→stV l j≤q→left (.int .i64 (stV l j))=false→stV l j≤own
theorem PlI.start {l:List I5} {q:Int} (hl:0 < l.length) (hq:0≤q):PlI l q (Maps.has (mpD l l.length)) 0:=
 ⟨⟨0,hl,rfl,hq⟩,fun j hj _ h=>by rw [(mpD_has _ _).2 ⟨j,hj,rfl⟩] at h;cases h⟩
theorem PlI.low {l:List I5} {q own x:Int} {left:Lit→Bool} (h:PlI l q left own) (hx:∃ i,i < l.length∧stV l i=x) (hq:x≤q) (m:Int) (hm:m=if own < x then x else own):PlI l q (fun z=>left z&&!z.sameKey (.int .i64 x)) m:=by
 obtain ⟨⟨i,hi,e,ho⟩,ht⟩:=h
 obtain ⟨j,hj,ej⟩:=hx
 refine ⟨?_,fun k hk hkq hl=>?_⟩
 ·by_cases hlt:own < x
  ·rw [if_pos hlt] at hm;exact ⟨j,hj,by rw [hm,ej],by omega⟩
  ·rw [if_neg hlt] at hm;exact ⟨i,hi,by rw [hm,e],by omega⟩
 ·have hm2:own≤m∧x≤m:=by rw [hm];split<;>omega
  by_cases e2:stV l k=x
  ·omega
  ·have:left (.int .i64 (stV l k))=false:=by
    have:=hl
    simp only [Lit.sameKey] at this
    simpa [e2] using this
   have:=ht k hk hkq this
   omega
theorem PlI.high {l:List I5} {q own x:Int} {left:Lit→Bool} (h:PlI l q left own) (hq:¬ x≤q):PlI l q (fun z=>left z&&!z.sameKey (.int .i64 x)) own:=by
 refine ⟨h.at',fun k hk hkq hl=>h.top k hk hkq ?_⟩
 have e2:stV l k≠x:=by omega
 have:=hl
 simp only [Lit.sameKey] at this
 simpa [e2] using this
theorem PlI.stop {l:List I5} {q own:Int} {left:Lit→Bool} (h:PlI l q left own) (hl:∀ z,left z=false) (hr:Rt l) (hq:q < stV l l.length):∃ i,i < l.length∧own=stV l i∧stV l i≤q∧q < stV l (i+1):=by
 obtain ⟨i,hi,e,ho⟩:=h.at'
 refine ⟨i,hi,e,by omega,?_⟩
 rcases Nat.lt_or_ge (i+1) l.length with h3 | h3
 ·rcases Int.lt_or_le q (stV l (i+1)) with h4 | h4
  ·exact h4
  ·have:=h.top (i+1) h3 h4 (hl _)
   have:=stV_lt hr (i+1) (Nat.lt_succ_self i) (by omega)
   omega
 ·have:i+1=l.length:=by omega
  rw [this];exact hq
set_option maxRecDepth 100000 in
set_option maxHeartbeats 4000000 in
theorem implPlace_any (s s' : Option Addr) (c c' lo hi : Nat) (p : PD) (b q : Int) (w : World) (h : ProgR w lo hi s s' p) (hB : hi ≤ w.heap.size) (hf : Fits p) :
  Calls Tryz.prog 8 #[.agg #[.slice s p.caps.length c,.slice s' p.bods.length c'],.int .i64 b,.int .i64 q] w fun e w'=>e=.returned (.tuple #[.int .i64 (placeV (bodV p b) q).1,.bool (placeV (bodV p b) q).2])∧Below w.heap.size w w':=by
 have HP:=hidP h
 have HF:=hidP hf
 obtain ⟨l,hl⟩:∃ l,bodV p b=l:=⟨_,rfl⟩
 have HR:=hidP (hl▸bodV_rt p b)
 have HL:=hidP hl
 rw [hl]
 clear h hf hl
 obtain ⟨W,hW,bx,kb,zb⟩:=Bo2.new w (.slice s p.caps.length c) (.slice s' p.bods.length c') 27
 have HB2:=hidP bx
 have HK:=hidP kb
 obtain ⟨x0,x1⟩:=bx
 clear kb
 go_enter Tryz.func8,Tryz.ntmps8
 go_wp2_with fail
 refine (bodyOf_any s s' c c' lo hi p b W (ProgR.keep' HP.out (Keep.of_below HK.out hB)) (by omega) HF.out).mono ?_
 rintro e w1 ⟨⟨s1,c1,rfl,hin⟩,hb1⟩
 rw [HL.out] at hin ⊢
 have K1:=hidP (HK.out.trans (hb1.mono (by omega)))
 have HI:=hidP hin
 have hz1:=hb1.size
 clear hb1 hin x0 x1 HB2
 go_wp2_with fail
 refine (firstsOf_any s1 c1 lo hi l w1 HI.out (by omega) HR.out).mono ?_
 rintro e w2 ⟨rfl,ho2,hb2⟩
 have K2:=hidP (K1.out.trans (hb2.mono (by omega)))
 have HO:=hidP ho2
 have hz2:w1.heap.size < w2.heap.size:=by obtain ⟨es,clock,h1,h2⟩:=ho2;exact (Array.getElem?_eq_some_iff.1 h1).1
 clear hb2 ho2 HI
 cases hq:Plain.oneB q (stV l l.length)
 ·have E:=hidP (placeV_no HR.out (q:=q) (fun h=>by simp only [Plain.oneB,decide_eq_false_iff_not] at hq;exact hq h))
  have HQ:=hidP hq
  clear hq
  go_wp2_with (go_at_call 12;refine (oneOf_is11 _ _ false _ HQ.out).mono ?_;rintro e w3 ⟨rfl,h3⟩;rw [h3];clear h3 w3)
  refine bodyPost_ret (v:=.tuple #[.int .i64 (-1),.bool false]) (by simp [results,Tryz.results8,go_sem]) rfl ?_
  exact ⟨by rw [E.out],K2.out⟩
 ·have HQ:=hidP hq
  simp only [Plain.oneB,decide_eq_true_eq] at hq
  obtain ⟨q0,q1⟩:=hq
  have Q1:=hidP q1
  have hl0:0 < l.length:=by
   rcases Nat.eq_zero_or_pos l.length with e | e
   ·rw [e] at q1;simp [stV] at q1;omega
   ·exact e
  clear q1
  go_wp2_with (first | (go_at_call 12;refine (oneOf_is11 _ _ true _ HQ.out).mono ?_;rintro e w3 ⟨rfl,h3⟩;rw [h3];clear h3 w3) | (at_range;refine wpList_range_own _ rfl _ 50 rfl 3 3 lawI Tryz.underlying50 _ w1.heap.size l.length _ rfl HO.out ?_;intro w3 hrg0 hg0 hs0) | go_in)
  go_frame
  go_loopw [10] (fun v wr=>∃ (own:Int) (left:Lit→Bool) (cnt:Nat),v=.int .i64 own∧wr.ranges Tryz.prog 3 (plainElem Tryz.prog 3) w1.heap.size w2.heap.size l.length (mpD l l.length) left cnt∧PlI l q left own∧Below w.heap.size w wr)
   (fun _ wr=>wr.rangeLeft w1.heap.size w2.heap.size)
  case atStart=>exact ⟨0,_,_,rfl,hrg0,PlI.start hl0 q0,K2.out.grown hg0 (by omega) (fun j hj=>by cases hj)⟩
  case round=>
   obtain ⟨own,left,cnt,rfl,hrg,hpl,hnx⟩:=hrel
   go_wp2_with (first
    | (at_next;refine wpList_next_ranges_ii _ rfl _ rfl 3 3 .i64 .i64 lawI Tryz.underlying3 Tryz.underlying3 w1.heap.size w2.heap.size l.length _ _ _ rfl hrg ?_ ?_)
    | go_in)
   ·intro hc0 hl1
    obtain ⟨i,hi,ei,i1,i2⟩:=hpl.stop hl1 HR.out Q1.out
    have EP:=hidP (placeV_at HR.out hi i1 i2)
    have EI:=hidP ei
    have HOW:Hid (OwnF wr w1.heap.size l.length (mpD l l.length)):=hrg.owns
    have KB:=hidP hnx
    clear hpl hrg hnx ei hc0 hl1
    go_wp2_with (first | (at_lookup;refine wpList_lookup_own_int _ rfl _ _ 50 rfl 3 3 .i64 lawI Tryz.underlying50 Tryz.underlying3 (zeroI _) w1.heap.size l.length _ rfl HOW.out _ (.int .i64 (stV l i)) rfl (keyOf_int_mk' EI.out.symm (stV_wf HR.out (by omega))) ?_;intro ci hci hwc) | go_in)
    have e1:ci=i:=by rw [mpD_at HR.out _ l.length hi (Nat.le_refl _)] at hci;simpa using hci.symm
    refine bodyPost_ret (v:=.tuple #[.int .i64 ci,.bool (own==q)]) (by simp [results,Tryz.results8,go_sem]) rfl ?_
    refine ⟨?_,KB.out⟩
    rw [EP.out,e1,EI.out]
    rfl
   ·intro x cx w4 cnt4 hwx hwc hlx hat hrg4 hlt4 hg4 hs4 hen
    have hx:∃ i,i < l.length∧stV l i=x:=(mpD_has x _).1 (has_true_of_atKey hat)
    have KB:=hidP (hnx.grown hg4 hnx.size (fun j hj=>by cases hj;omega))
    by_cases hxq:x≤q
    ·go_wp2
     exact ⟨⟨_,_,cnt4,rfl,hrg4,hpl.low hx hxq _ rfl,KB.out⟩,by rw [hrg4.left_eq,hrg.left_eq];exact hlt4⟩
    ·go_wp2
     go_roundw
     case rel=>exact ⟨own,_,cnt4,rfl,hrg4,hpl.high hxq,KB.out⟩
     case measure=>rw [hrg4.left_eq,hrg.left_eq];exact hlt4
end
end Go.Proofs.YtkhjhibigldcgaaGreat
