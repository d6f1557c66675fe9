/- MachineNew of the specification. Conditions: the codes are counted. The frame of a law over drawn bytes: they are a slice of bytes in memory; laws.big counts them. No condition. What the law of the lock reads and makes: its letters, its steps, its picks. No condition. How much a step adds to a machine. No condition. The draws of chapter 1 of a place: each makes a place of five numbers, and turns the cursor's own block alone. Conditions: the cursor and its bytes lie in memory as the reading says. l7DrawStep: a step is drawn; the cursor's own block alone is turned. Conditions: the cursor and its bytes lie in memory as the reading says; 1 to 256 places. -/
import Derived.Test.YtlbeploopclegaaGreatQG00
import Derived.Test.YtlbeploopclegaaGreatQG01
import Derived.Test.YtlbeploopclegaaGreatQG13
import Derived.Test.YtlbeploopclegaaGreatQKOkB
import Derived.Test.YtlbeploopclegaaGreatQG04
import Derived.Test.YtlbeploopclegaaGreatQG02
import Derived.Test.YtlbeploopclegaaGreatQG18
import Derived.Test.YtlbeploopclegaaGreatQC7SpA
import Derived.Test.YtlbeploopclegaaGreatQG19
import Derived.Test.YtlbeploopclegaaGreatQG10
import Derived.Test.YtlbeploopclegaaGreatQKOkS
import Derived.Test.YtlbeploopclegaaGreatRows
import Derived.ProofKit
import Derived.OpenShut
import Derived.ShutString
import Derived.ChangeOld
import Derived.ChangeSlices
import Derived.Test.YtlbeploopclegaaGreatQMemStore
import Derived.Test.YtlbeploopclegaaGreatQG06
namespace Go.Proofs.YtlbeploopclegaaGreat
section
set_option linter.unusedSimpArgs false
set_option linter.unusedVariables false
set_option maxRecDepth 100000
open Go.RowKit
set_option maxHeartbeats 400000 in
theorem specMachineOk_long (s1 s2 s3 s4 : Option Addr) (c1 c2 c3 c4 n1 n2 n3 n4 : Nat) (w : World) (hn : Plain.inB (n1 : Int) 1 4 = false) :
  Calls Tryz.prog 15 #[.agg #[.slice s1 n1 c1,.slice s2 n2 c2,.slice s3 n3 c3,.slice s4 n4 c4]] w fun e w'=>e=.returned (.bool false)∧Below w.heap.size w w':=by
 go_enter Tryz.func15,Tryz.ntmps15
 go_wp2_with (go_at_call 23;refine (l1In_is _ _ _ _ _ hn).mono ?_;rintro e w' ⟨rfl,rfl⟩)
 go_ret
 exact ⟨rfl,(Below.refl _ _).alloc (Nat.le_refl _) _⟩
theorem specMachNew_ok (s1 s2 s3 : Option Addr) (c1 c2 c3 lo hi : Nat) (l : List (List I5)) (w : World) (h : MaR w lo hi s1 s2 s3 none (newMd l)) (hB : hi ≤ w.heap.size) (hl : l.length + szC l ≤ 1048576) :
  Calls Tryz.prog 15 #[.agg #[.slice s1 l.length c1,.slice s2 l.length c2,.slice s3 24 c3,.slice none 0 0]] w fun e w'=>e=.returned (.bool (codesB l))∧Below w.heap.size w w':=by
 cases hn:Plain.inB (l.length:Int) 1 4 with
 | true=>
  have C:=specMachineOk_any s1 s2 s3 none c1 c2 c3 0 lo hi (newMd l) w h hB (fits_new hl (by simp [Plain.inB] at hn;omega))
  rw [mach_new] at C
  simp only [newMd,List.length_replicate,newM_len,List.length_nil] at C
  exact C
 | false=>
  have e:codesB l=false:=by
   unfold codesB
   rw [decide_eq_false (by simp [Plain.inB] at hn;omega)]
   rfl
  rw [e]
  exact specMachineOk_long s1 s2 s3 none c1 c2 c3 0 l.length l.length 24 0 w hn
set_option maxHeartbeats 2000000 in
theorem specMachNew_any (s : Option Addr) (c lo hi : Nat) (l : List (List I5)) (w : World) (h : CsR w lo hi s l) (hB : hi ≤ w.heap.size) (hl : l.length + szC l ≤ 1048576) :
  Calls Tryz.prog 107 #[.slice s l.length c] w fun e w'=>∃ p:MP,e=.returned (.tuple #[.agg #[.slice p.s1 (newMa l).codes.length p.c1,.slice p.s2 (newMa l).cores.length p.c2,.slice p.s3 (newMa l).mem.length p.c3,.slice p.s4 (newMa l).tr.length p.c4],.bool (codesB l)])∧MaO w' w.heap.size w'.heap.size p (newMa l)∧Below w.heap.size w w':=by
 have H:Hid (CsR w lo hi s l):=h
 have h8:∀ w:World,(Instr.makeSlice 51 (.int .i64 8) (.int .i64 8)).run Tryz.prog w=.ok (.slice (some ⟨w.heap.size,0,none⟩) 8 8) (w.alloc (.cells (madeCells #[.int .i64 0] 8) 3)):=fun w=>mkInt 8 (by omega) w
 have h24:∀ w:World,(Instr.makeSlice 51 (.int .i64 24) (.int .i64 24)).run Tryz.prog w=.ok (.slice (some ⟨w.heap.size,0,none⟩) 24 24) (w.alloc (.cells (madeCells #[.int .i64 0] 24) 3)):=fun w=>mkInt 24 (by omega) w
 clear h
 go_enter Tryz.func107,Tryz.ntmps107
 go_wp2_with fail
 obtain ⟨W0,hW0,x0,k0,z0⟩:=X4.new w (.slice none 0 0) (.slice none 0 0) (.slice none 0 0) (.slice none 0 0) 38
 rw [hW0]
 clear hW0
 obtain ⟨w1,hw1⟩:∃ w1,w1=W0:=⟨_,rfl⟩
 have K1:Hid (Below w.heap.size w w1):=by rw [hw1];exact k0
 have R1:Hid (X4 w1 w.heap.size (.slice none 0 0) (.slice none 0 0) (.slice none 0 0) (.slice none 0 0)):=by rw [hw1];exact x0
 have z1:w.heap.size < w1.heap.size:=by rw [hw1];exact z0
 rw [← hw1]
 clear hw1 x0 k0 z0
 refine (l8Codes_any s c lo hi l w1 (H.out.keep (Keep.of_below K1.out hB)) (by omega) hl).mono ?_
 rintro e w2 ⟨vc,LC,rfl,hm2,ho2,hb2⟩
 have K2:Hid (Below w.heap.size w w2):=K1.out.trans (hb2.mono (by omega))
 have R2:Hid (X4 w2 w.heap.size (.slice none 0 0) (.slice none 0 0) (.slice none 0 0) (.slice none 0 0)):=R1.out.keep hb2 (by omega)
 obtain ⟨sc,cc,RC,evc,gc⟩:=ho2.go
 have e2:LC.length=l.length:=by have:=congrArg List.length hm2;simpa using this
 rw [e2] at evc
 have G2:Hid (GO w2 w1.heap.size w2.heap.size sc TC RC (l.map codeV)):=by
  have e:LC.map (fun x=>codeV x.l)=l.map codeV:=by
   rw [← hm2,List.map_map]
   rfl
  show GO _ _ _ _ _ _ _
  rw [← e]
  exact gc
 have z2:=hb2.size
 clear hm2 ho2 hb2 R1 e2 gc
 subst evc
 go_wp2_with fail
 refine (specNew_any w2).mono ?_
 rintro e w3 ⟨sm,cm,S,rfl,hm3,hb3⟩
 have z3:=hb3.size
 have K3:Hid (Below w.heap.size w w3):=K2.out.trans (hb3.mono (by omega))
 have R3:Hid (X4 w3 w.heap.size (.slice none 0 0) (.slice none 0 0) (.slice none 0 0) (.slice none 0 0)):=R2.out.keep hb3 (by omega)
 have G3:Hid (GO w3 w1.heap.size w2.heap.size sc TC RC (l.map codeV)):=G2.out.keep (Keep.of_below hb3 (Nat.le_refl _))
 have M3:Hid (MO w3 w2.heap.size w3.heap.size sm S (newM 24)):=hm3
 clear hm3 hb3 R2 G2
 go_wp2
 obtain ⟨W4,hW4,xm,km,zm⟩:=X4.new w3 (.slice sc l.length cc) (.slice none 0 0) (.slice sm 24 cm) (.slice none 0 0) 38
 rw [hW4]
 clear hW4
 obtain ⟨bm,hbm,hbm1,hbm2⟩:∃ b,w3.heap.size=b∧w3.heap.size≤b∧b≤w3.heap.size:=⟨_,rfl,Nat.le_refl _,Nat.le_refl _⟩
 rw [hbm] at xm km zm
 have XM:Hid (X4 W4 bm (.slice sc l.length cc) (.slice none 0 0) (.slice sm 24 cm) (.slice none 0 0)):=xm
 have KM:Hid (Below bm w3 W4):=km
 have ZM:bm+1≤W4.heap.size:=zm
 rw [hbm]
 clear xm km hbm zm
 go_loopw [5] (fun i wr=>∃ (k:Nat) (v:Value) (L:List KV),k≤l.length∧i=.int .i64 k∧L.length=k∧L.map KV.d=List.replicate k zKD∧OwnK wr (bm+1) v L∧X4 wr bm (.slice sc l.length cc) v (.slice sm 24 cm) (.slice none 0 0)∧Below bm w3 wr∧bm+1≤wr.heap.size) (fun i _=>l.length - (intOf i).toNat)
 case atStart=>exact ⟨0,_,[],Nat.zero_le _,rfl,rfl,rfl,OwnK.nil _ _,XM.out,KM.out,ZM⟩
 case round=>
  obtain ⟨k,v,L,hk,rfl,hL,hD,ho,hx,hb,hz⟩:=hrel
  obtain ⟨sv,cv,ev⟩:=ownSl ho.row
  rw [hL] at ev
  subst ev
  have HO:Hid (OwnK wr (bm+1) (.slice sv k cv) L):=ho
  have HX:Hid (X4 wr bm (.slice sc l.length cc) (.slice sv k cv) (.slice sm 24 cm) (.slice none 0 0)):=hx
  have HB:Hid (Below bm w3 wr):=hb
  have HL:Hid (L.length=k):=hL
  have HD:Hid (L.map KV.d=List.replicate k zKD):=hD
  obtain ⟨y0,y1,y2,y3,y4⟩:=hx.x
  have yf:=hx.fz
  clear ho hb hL hD hx
  by_cases hlt:k < l.length
  ·have b1:(k:Int) < (l.length:Int):=by omega
   go_wp2
   have HOA:Hid (OwnK (WA wr.drew) (bm+1) (.slice sv k cv) L):=(HO.out.below (Below.drew (Below.refl _ _))).below (WA_below _)
   have HOB:Hid (OwnK (WB wr.drew) (bm+1) (.slice sv k cv) L):=(HO.out.below (Below.drew (Below.refl _ _))).below (WB_below _)
   have HLn:L.length≤1073741824:=by have:=HL.out;omega
   have zs:bm+1≤wr.drew.heap.size:=hz
   have zb1:bm < wr.heap.size+1:=by omega
   have zb2:bm < wr.heap.size+1+1:=by omega
   go_region_law (first | (refine step_recK rfl _ _ rfl (WA wr.drew) (bm+1) (.slice sv k cv) L (yA wr.drew) rfl HOA.out (WA_own zs) (new_two (.inl rfl)) rfl rfl (wr.heap.size+1+1) (by rw [WA_size];rfl) rfl HLn (by rw [WA_size];omega) (new_sep (HO.out.below (Below.drew (Below.refl _ _))) (.inl rfl)) ?_;intro g6 c6 w6 hp6;have Y6:=(show Hid (∃ y:KV,y.d=zKD∧OwnK w6 (bm+1) (.slice (some ⟨g6,0,none⟩) (L.length+1) c6) (L++[y])) from ⟨yA wr.drew,rfl,hp6.own⟩);have K6:=(show Below (bm+1) wr w6 from ((Below.drew (Below.refl (bm+1) wr)).trans ((WA_below wr.drew).mono zs)).trans hp6.low);have X6:=HX.out.keep K6 (show bm < bm+1 by omega);have t1:=X6.x.c1;have t2:=X6.fz 1;clear hp6) | (refine step_recK rfl _ _ rfl (WB wr.drew) (bm+1) (.slice sv k cv) L (yB wr.drew) rfl HOB.out (WB_own zs) (new_two (.inr rfl)) rfl rfl (wr.heap.size+1+1) (by rw [WB_size];rfl) rfl HLn (by rw [WB_size];omega) (new_sep (HO.out.below (Below.drew (Below.refl _ _))) (.inr rfl)) ?_;intro g6 c6 w6 hp6;have Y6:=(show Hid (∃ y:KV,y.d=zKD∧OwnK w6 (bm+1) (.slice (some ⟨g6,0,none⟩) (L.length+1) c6) (L++[y])) from ⟨yB wr.drew,rfl,hp6.own⟩);have K6:=(show Below (bm+1) wr w6 from ((Below.drew (Below.refl (bm+1) wr)).trans ((WB_below wr.drew).mono zs)).trans hp6.low);have X6:=HX.out.keep K6 (show bm < bm+1 by omega);have t1:=X6.x.c1;have t2:=X6.fz 1;clear hp6))
   all_goals
    have XX:Hid (X4 w6 bm (.slice sc l.length cc) (.slice sv k cv) (.slice sm 24 cm) (.slice none 0 0)):=X6
    have KK:Hid (Below (bm+1) wr w6):=K6
    have z6:=K6.size
    clear X6 K6 y1 y2 y3 y4 yf
    go_wp2
    go_roundw
    case rel=>
     obtain ⟨y,hy,oy⟩:=Y6.out
     refine ⟨k+1,_,L++[y],by omega,by go_num,by simp [HL.out],?_,oy.keep (fun b hb _=>Below.heap_setCell _ _ _ b (by show b≠bm;omega)),XX.out.set1,(HB.out.trans (KK.out.mono (by omega))).setCell (p:=⟨bm,1,none⟩) (Nat.le_refl _) _,by simp;omega⟩
     rw [List.map_append,HD.out,List.replicate_succ']
     simp [hy]
    case measure=>simp [intOf];omega
  ·have e:k=l.length:=by omega
   subst e
   obtain ⟨sk,ck,RK,evk,gk,-⟩:=HO.out.go
   have kn:=HL.out
   rw [kn] at evk
   injection evk with evk1 _ evk2
   subst evk1 evk2
   have GK:Hid (GO wr (bm+1) wr.heap.size sv TK RK ((newMd l).cores.map coreV)):=by
    have e:L.map (fun x=>coreV x.d)=(newMd l).cores.map coreV:=by
     have q:=HD.out
     show _=(List.replicate l.length zKD).map coreV
     rw [← q,List.map_map]
     rfl
    show GO _ _ _ _ _ _ _
    rw [← e]
    exact gk
   have km:∀ {a b:Nat},b≤bm→Keep a b w3 wr:=fun h2 k h3 h4=>HB.out.block k (by omega)
   have MR:Hid (MaR wr w.heap.size wr.heap.size sc sv sm none (newMd l)):=⟨((G3.out.keep (km (by omega))).csR (l:=l)).mono (by omega) (by omega),GK.out.ksR.mono (by omega) (Nat.le_refl _),((M3.out.keep (km (by omega))).mem).mono (by omega) (by omega),.inl rfl⟩
   clear gk km
   have zw:w.heap.size < wr.heap.size:=by omega
   go_wp2_with fail
   refine (specMachNew_ok sc sv sm cc cv cm w.heap.size wr.heap.size l wr MR.out (Nat.le_refl _) hl).mono ?_
   rintro e wq ⟨rfl,hbq⟩
   have rx:=(R3.out.keep HB.out (by omega)).keep hbq zw
   obtain ⟨r0,r1,r2,r3,r4⟩:=rx.x
   have rf:=rx.fz
   have RX:Hid (X4 wq w.heap.size (.slice none 0 0) (.slice none 0 0) (.slice none 0 0) (.slice none 0 0)):=rx
   have xm:=HX.out.keep hbq y0
   have mf:=xm.fz
   clear y1 y2 y3 y4 yf
   obtain ⟨y0',y1,y2,y3,y4⟩:=xm.x
   have zq:=hbq.size
   have HQ:Hid (Below wr.heap.size wr wq):=hbq
   have zw':w.heap.size < wq.heap.size:=by omega
   clear hbq rx xm
   cases hc:codesB l
   ·go_wp2
    have xz:=RX.out.set0 (u:=.slice none 0 0) |>.set1 (u:=.slice none 0 0) |>.set2 (u:=.slice none 0 0) |>.set3 (u:=.slice none 0 0)
    refine bodyPost_ret (v:=.tuple #[.agg #[.slice none 0 0,.slice none 0 0,.slice none 0 0,.slice none 0 0],.bool false]) (by simp [results,Tryz.results107,go_sem,xz.x.c0,xz.x.c1,xz.x.c2,xz.x.c3]) rfl ⟨noMP,?_,?_,?_⟩
    ·unfold newMa
     rw [hc]
     rfl
    ·unfold newMa
     rw [hc]
     exact noMa _ _ _
    ·refine Below.setCell (Below.setCell (Below.setCell (Below.setCell (((K3.out.trans (HB.out.mono (by omega)))).trans (HQ.out.mono (by omega))) ?_ _) ?_ _) ?_ _) ?_ _<;>simp
   go_wp2
   obtain ⟨Z,hZ,xz,kz,sz,fz⟩:∃ Z,(((wq.setCell ⟨w.heap.size,0,none⟩ (.slice sc l.length cc)).setCell ⟨w.heap.size,1,none⟩ (.slice sv l.length cv)).setCell ⟨w.heap.size,2,none⟩ (.slice sm 24 cm)).setCell ⟨w.heap.size,3,none⟩ (.slice none 0 0)=Z∧X4 Z w.heap.size (.slice sc l.length cc) (.slice sv l.length cv) (.slice sm 24 cm) (.slice none 0 0)∧Below w.heap.size w Z∧Z.heap.size=wq.heap.size∧∀ k,k≠w.heap.size→Z.heap[k]? =wq.heap[k]? :=by
    refine ⟨_,rfl,RX.out.set0.set1.set2.set3,?_,by simp,fun k hk=>?_⟩
    ·refine Below.setCell (Below.setCell (Below.setCell (Below.setCell ((K3.out.trans (HB.out.mono (by omega))).trans (HQ.out.mono (by omega))) ?_ _) ?_ _) ?_ _) ?_ _<;>simp
    ·rw [Below.heap_setCell _ _ _ k hk,Below.heap_setCell _ _ _ k hk,Below.heap_setCell _ _ _ k hk,Below.heap_setCell _ _ _ k hk]
   have kp:∀ {a b:Nat},w.heap.size < a→b≤bm→Keep a b w3 Z:=fun h1 h2 k h3 h4=>((fz k (by omega)).trans (HQ.out.block k (by omega))).trans (HB.out.block k (by omega))
   have mo:MaO Z w.heap.size Z.heap.size ⟨sc,cc,RC,sv,cv,RK,sm,cm,S,none,0⟩ (newMd l):=
    MaO.of3 (G3.out.keep (kp (by omega) (by omega))) (M3.out.keep (kp (by omega) (by omega))) (GK.out.keep (fun k h3 h4=>(fz k (by omega)).trans (HQ.out.block k h4))) rfl (by omega) (by omega) (by omega) (by omega)
   refine bodyPost_ret (v:=.tuple #[.agg #[.slice sc l.length cc,.slice sv l.length cv,.slice sm 24 cm,.slice none 0 0],.bool true]) ?_ rfl ?_
   ·rw [hZ]
    simp [results,Tryz.results107,go_sem,xz.x.c0,xz.x.c1,xz.x.c2,xz.x.c3]
   ·rw [hZ]
    unfold newMa
    rw [hc]
    refine ⟨⟨sc,cc,RC,sv,cv,RK,sm,cm,S,none,0⟩,?_,mo,kz⟩
    simp [newMd,newM_len]
end
section
set_option linter.unusedSimpArgs false
set_option linter.unusedVariables false
set_option maxRecDepth 100000
open Go.ChangeShapes Go.WideShapes Go.ChangeAt Go.RowKit
theorem retB {x y:Bool} (h:x=y):Ending.returned (.bool x)=Ending.returned (.bool y):=by rw [h]
theorem big_any (s:Option Addr) (n c:Nat) (w:World):Calls Tryz.prog 12 #[.slice s n c] w fun e w'=>e=.returned (.bool (decide (1048576 < n)))∧w'=w:=by
 go_enter Tryz.func12,Tryz.ntmps12
 go_wp2
 go_ret
 refine ⟨retB ?_,rfl⟩
 rw [Bool.eq_iff_iff]
 simp
 omega
theorem ownS:ownKnob Tryz.prog.godebug=none:=by kernel_rfl
theorem laidOutS:laidOutB Tryz.prog=true:=by kernel_rfl
theorem bytes_read {H : Type} {enc : TypeId × Value → H} {w : World} {base b0 : Nat} {held : Bool} {k : Reach} {v : Value} {d : DataW H} {p : List MemPlace}
  (hv:Value.okWide Tryz.prog w k b0 44 v) (h:DataW.Trod enc Tryz.prog w base (fun _=>true) held 44 v d p):
  ∃ (s:Option Addr) (n c:Nat),v=.slice s n c∧n≤maxLen∧Bytes w w.heap.size s n:=by
 obtain ⟨s,len,cap,rfl⟩:=okWide_slice Tryz.underlying44 hv
 obtain ⟨fuel,hf⟩:=h
 rcases open_ints Tryz.underlying44 Tryz.underlying5 (by kernel_rfl) hf with ⟨hcs,_⟩ | ⟨a,l,c,zs,hcs,_,hl,hm,hz,_,hcell,hwz⟩
 ·simp [Value.cells] at hcs
  obtain ⟨rfl,rfl,rfl⟩:=hcs
  exact ⟨none,0,0,rfl,Nat.zero_le _,.inl rfl⟩
 ·simp [Value.cells] at hcs
  obtain ⟨rfl,rfl,rfl⟩:=hcs
  simp at hz
  refine ⟨some a,len,cap,rfl,by omega,?_⟩
  by_cases h0:len=0
  ·exact .inl h0
  ·have c0:=hcell 0 (by omega)
   have c0':w.cell? a=some (.int .u8 (zs.getD 0 0)):=by simpa [Addr.add] using c0
   have hs:=World.cell?_spot c0'
   have hg:a.block < w.heap.size:=by
    apply Classical.byContradiction
    intro hn
    have:w.heap[a.block]? =none:=by simp;omega
    simp [World.cell?,this] at c0'
   obtain ⟨g,off,spot⟩:=a
   simp at hs
   subst hs
   refine .inr ⟨g,off,rfl,hg,fun i hi=>?_⟩
   have ci:=hcell i (by omega)
   have e:(Addr.add ⟨g,off,none⟩ i)=⟨g,off+i,none⟩:=by
    by_cases h:i=0
    ·subst h;rfl
    ·simp [Addr.add,h]
   rw [e] at ci
   have hmem:zs.getD i 0∈zs:=by
    rw [List.getD_eq_getElem?_getD,List.getElem?_eq_getElem (by omega)]
    exact List.getElem_mem (by omega)
   have hw:=bounds_u8 (hwz _ hmem)
   exact ⟨_,ci,by omega,by omega⟩
theorem Bytes.up {w w':World} {s:Option Addr} {n:Nat} (h:Bytes w w.heap.size s n) (hb:Below w.heap.size w w'):Bytes w' w'.heap.size s n:=by
 have hz:=hb.size
 rcases h with h | ⟨g,o,hs,hg,hc⟩
 ·exact .inl h
 ·refine .inr ⟨g,o,hs,by omega,fun k hk=>?_⟩
  obtain ⟨b,h1,h2⟩:=hc k hk
  exact ⟨b,(hb.cell (p:=⟨g,o+k,none⟩) hg).trans h1,h2⟩
end
section
set_option linter.unusedSimpArgs false
set_option linter.unusedVariables false
set_option maxRecDepth 100000
open Go.RowKit
def OwnPk (w:World) (base:Nat) (v:Value) (l:List ND):Prop:=w.ownsRow base 121 2 v l.length (flatN l)
theorem OwnPk.nts {w:World} {base:Nat} {v:Value} {l:List ND} (h:OwnPk w base v l):∃ s c,v=.slice s l.length c∧NtsR w base w.heap.size s l:=by
 rcases Nat.eq_zero_or_pos l.length with h0 | hpos
 ·obtain ⟨s,c,e⟩:=ownSl h
  exact ⟨s,c,e,.inl (List.length_eq_zero_iff.1 h0)⟩
 ·obtain ⟨g,cap,rfl,-⟩:=World.ownsRow.form h hpos
  have hlt:=World.ownsRow.lt h g rfl
  refine ⟨_,_,rfl,.inr ⟨g,0,rfl,hlt.1,hlt.2,fun i r hr=>?_⟩⟩
  have hi:i < l.length:=(List.getElem?_eq_some_iff.1 hr).1
  obtain ⟨e0,e1⟩:=flatN_at l i r hr
  refine ⟨?_,?_⟩
  ·rw [Nat.zero_add,World.ownsRow.cellAt h _ (by omega)];exact e0
  ·rw [Nat.zero_add,World.ownsRow.cellAt h _ (by omega)];exact e1
theorem infoPk:∃ i,Tryz.prog.info? 121=some i∧i.zero=some (.agg #[.int .i64 0,.int .i64 0])∧i.size=2∧i.bytes=16:=⟨_,rfl,rfl,rfl,rfl⟩
theorem wp_pick {o : Oper} {a : Act} {w : World} {K : Act → World → Prop} {Q : Exit → Act → World → Prop} (s x : Operand) (ho : o.op = .call { callee := .builtin .append, args := #[s, x], argTypes := #[165, 165] })
  (base:Nat) (v:Value) (n:Nat) (xs:List Value) (hs:a.eval s=v) (hown:w.ownsRow base 121 2 v n xs) (g0:Nat) (u0 u1:Value) (hu0:u0.oneCell'=true) (hu1:u1.oneCell'=true) (hx:a.eval x=.slice (some ⟨g0,0,none⟩) 1 1) (hc0:w.cell? ⟨g0,0,none⟩=some u0) (hc1:w.cell? ⟨g0,1,none⟩=some u1) (hn:n≤1073741824) (hbase:base≤w.heap.size)
  (h:∀ g cap w',w'.ownsRow base 121 2 (.slice (some ⟨g,0,none⟩) (n+1) cap) (n+1) (xs++[u0,u1])→w.grownBy w' v.ownBlock→(v.ownBlock=some g∨w.heap.size≤g)→g < w'.heap.size→K (a.put o.dst (.slice (some ⟨g,0,none⟩) (n+1) cap)) w'):Oper.wp Tryz.prog o a w K Q:=by
 obtain ⟨i0,hi,hz0,hz1,hz2⟩:=infoPk
 refine wp_append_lies w s x 165 ho base 121 i0 _ 2 16 Tryz.underlying165 hi hz0 hz1 hz2 rfl (by decide) v n xs hs hown ⟨g0,0,none⟩ 1 1 [u0,u1] hx rfl (fun j u' hj=>?_) (fun u' hu'=>by simp at hu';rcases hu' with rfl | rfl<;>assumption) (by decide) (by unfold maxLen;omega) (by omega) hbase _ rfl ?_
 ·match j,hj with
  | 0,hj=>simp at hj;subst hj;simpa [Addr.add] using hc0
  | 1,hj=>simp at hj;subst hj;simpa [Addr.add] using hc1
  | j+2,hj=>simp at hj
 ·intro g cap w' q1 q2 q3 q4
  exact h g cap w' q1 q2 (by rcases q3 with q3 | q3<;>first | exact .inl q3 | exact .inr (by omega)) q4
theorem app_pick {ops : Array Oper} {rest : List Oper} {o : Oper} {a : Act} {Q : Exit → Act → World → Prop} (hgd : o.guard = none) (s x : Operand) (ho : o.op = .call { callee := .builtin .append, args := #[s, x], argTypes := #[165, 165] })
  (w:World) (base:Nat) (v:Value) (n:Nat) (xs:List Value) (hs:a.eval s=v) (hown:w.ownsRow base 121 2 v n xs) (g0:Nat) (u0 u1:Value) (hu0:u0.oneCell'=true) (hu1:u1.oneCell'=true) (hx:a.eval x=.slice (some ⟨g0,0,none⟩) 1 1) (hc0:w.cell? ⟨g0,0,none⟩=some u0) (hc1:w.cell? ⟨g0,1,none⟩=some u1) (hn:n≤1073741824) (hbase:base≤w.heap.size)
  (h:∀ g cap w',w'.ownsRow base 121 2 (.slice (some ⟨g,0,none⟩) (n+1) cap) (n+1) (xs++[u0,u1])→w.grownBy w' v.ownBlock→(v.ownBlock=some g∨w.heap.size≤g)→g < w'.heap.size→wpList Tryz.prog ops Q rest (a.put o.dst (.slice (some ⟨g,0,none⟩) (n+1) cap)) w'):wpList Tryz.prog ops Q (o::rest) a w:=
 wpList_plain hgd fun _ hK=>wp_pick s x ho base v n xs hs hown g0 u0 u1 hu0 hu1 hx hc0 hc1 hn hbase fun g cap w' h1 h2 h3 h4=>hK _ _ (h g cap w' h1 h2 h3 h4)
theorem X4.put4 {V:World} {b lo hi:Nat} {v0 v1 v2 v3:Value} {s1 s2 s3 s4:Option Addr} {E:MD} (a b' c d:Value) (h:X4 V b v0 v1 v2 v3) (hm:MaR V lo hi s1 s2 s3 s4 E) (hb:b < lo):∃ Z,(((V.setCell ⟨b,0,none⟩ a).setCell ⟨b,1,none⟩ b').setCell ⟨b,2,none⟩ c).setCell ⟨b,3,none⟩ d=Z∧X4 Z b a b' c d∧MaR Z lo hi s1 s2 s3 s4 E∧Z.heap.size=V.heap.size∧(∀ q,q≠b→Z.heap[q]? =V.heap[q]?)∧∀ (B:Nat) (A:World),Below B A V→B≤b→Below B A Z:=by
 refine ⟨_,rfl,h.set0.set1.set2.set3,hm.keep ?_,by simp,fun q hq=>?_,fun B A k hB=>?_⟩
 ·exact fun q h1 _=>(Below.heap_setCell _ ⟨b,_,none⟩ _ q (by show q≠b;omega)).trans ((Below.heap_setCell _ ⟨b,_,none⟩ _ q (by show q≠b;omega)).trans ((Below.heap_setCell _ ⟨b,_,none⟩ _ q (by show q≠b;omega)).trans (Below.heap_setCell _ ⟨b,_,none⟩ _ q (by show q≠b;omega))))
 ·exact (Below.heap_setCell _ ⟨b,_,none⟩ _ q hq).trans ((Below.heap_setCell _ ⟨b,_,none⟩ _ q hq).trans ((Below.heap_setCell _ ⟨b,_,none⟩ _ q hq).trans (Below.heap_setCell _ ⟨b,_,none⟩ _ q hq)))
 ·exact (((k.setCell (p:=⟨b,_,none⟩) hB _).setCell (p:=⟨b,_,none⟩) hB _).setCell (p:=⟨b,_,none⟩) hB _).setCell (p:=⟨b,_,none⟩) hB _
end
section
set_option linter.unusedSimpArgs false
set_option linter.unusedVariables false
set_option maxRecDepth 100000
open Go.RowKit
theorem goM_same (d:MD) (who:Nat) (k:KD) (n:Nat) (p:Int):(goM d who k n p).mem=d.mem∧(goM d who k n p).codes=d.codes:=by
 unfold goM
 split
 ·exact ⟨rfl,rfl⟩
 ·exact ⟨rfl,rfl⟩
theorem szV_snoc (x:WD):∀ l:List WD,szV (l++[x])=szV l+x.vw.length
 | []=>by simp [szV]
 | y::r=>by simp [szV,szV_snoc x r];omega
theorem szR_set (x:WD):∀ (m:List (List WD)) (c:Nat) (r:List WD),m[c]? =some r→szR (m.set c (r++[x]))=szR m+1+x.vw.length
 | [],c,r,h=>by simp at h
 | y::t,0,r,h=>by
  simp at h
  subst h
  simp [szR,szV_snoc]
  omega
 | y::t,c+1,r,h=>by
  have q:=szR_set x t c r (by simpa using h)
  simp [szR,q]
  omega
theorem told24 (l:List Int) (k n:Nat) (b:Bool) (hl:l.length=24):(toldL l k n b).length=24:=by
 unfold toldL
 split
 ·rw [List.length_set];exact hl
 ·rw [List.length_set,List.length_replicate]
theorem stM_sz {m:List (List WD)} {l:List Int} {c:Nat} (z:Int) (b:Bool) (hm:memB m=true) (hc:c < 24) (hl:l.length=24):(stM m l c z b).length+szR (stM m l c z b)=m.length+szR m+25:=by
 obtain ⟨-,r,hr,-⟩:=memB_at hm hc
 have e:m.getD c []=r:=by rw [List.getD_eq_getElem?_getD,hr];rfl
 unfold stM
 rw [e,szR_set _ m c r hr,List.length_set]
 simp only [told24 _ _ _ _ hl]
 omega
theorem stepAt_sz {d:MD} {who:Nat} {k:KD} {code:List I5} {s:I5} (late:Int) (ha:At8 d who k code s):(stepAt d who late k code.length s).1.codes=d.codes∧(stepAt d who late k code.length s).1.mem.length+szR (stepAt d who late k code.length s).1.mem≤d.mem.length+szR d.mem+25:=by
 have hm:=ha.mem
 have hl:k.vw.length=24:=by
  have q:=(viewB_iff.1 ha.vw).1
  have m:=(memB_at ha.mem (i:=0) (by omega)).1
  omega
 have go:∀ (d1:MD) (k1:KD) (p:Int),d1.codes=d.codes→d1.mem.length+szR d1.mem≤d.mem.length+szR d.mem+25→(goM d1 who k1 code.length p,(0:Int)).1.codes=d.codes∧(goM d1 who k1 code.length p,(0:Int)).1.mem.length+szR (goM d1 who k1 code.length p,(0:Int)).1.mem≤d.mem.length+szR d.mem+25:=fun d1 k1 p h1 h2=>by
  obtain ⟨e1,e2⟩:=goM_same d1 who k1 code.length p
  simp only [e1,e2]
  exact ⟨h1,h2⟩
 have st:∀ (k1:KD) (z:Int),(putK d who k1,z).1.codes=d.codes∧(putK d who k1,z).1.mem.length+szR (putK d who k1,z).1.mem≤d.mem.length+szR d.mem+25:=fun k1 z=>⟨rfl,Nat.le_add_right _ _⟩
 have no:∀ z:Int,(d,z).1.codes=d.codes∧(d,z).1.mem.length+szR (d,z).1.mem≤d.mem.length+szR d.mem+25:=fun z=>⟨rfl,Nat.le_add_right _ _⟩
 unfold stepAt
 by_cases e1:s.o=1
 ·rw [if_pos e1];exact go _ _ _ rfl (Nat.le_add_right _ _)
 rw [if_neg e1]
 by_cases e2:s.o=2
 ·rw [if_pos e2];exact go _ _ _ rfl (Nat.le_add_right _ _)
 rw [if_neg e2]
 by_cases e3:s.o=3
 ·rw [if_pos e3];exact go _ _ _ rfl (Nat.le_add_right _ _)
 rw [if_neg e3]
 by_cases e4:s.o=4
 ·rw [if_pos e4];exact go _ _ _ rfl (Nat.le_add_right _ _)
 rw [if_neg e4]
 by_cases e9:s.o=9
 ·rw [if_pos e9]
  by_cases hf:d.tr.length=4000
  ·rw [if_pos hf];exact no 3
  ·rw [if_neg hf];exact go _ _ _ rfl (Nat.le_add_right _ _)
 rw [if_neg e9]
 by_cases e10:s.o=10
 ·rw [if_pos e10];exact go _ _ _ rfl (Nat.le_add_right _ _)
 rw [if_neg e10]
 by_cases e11:s.o=11
 ·rw [if_pos e11];exact go _ _ _ rfl (Nat.le_add_right _ _)
 rw [if_neg e11]
 by_cases e12:s.o=12
 ·rw [if_pos e12];exact st _ 0
 rw [if_neg e12]
 by_cases e13:s.o=13
 ·rw [if_pos e13];exact st _ 0
 rw [if_neg e13]
 by_cases hc:0≤cellM k s∧cellM k s≤23
 ·rw [if_pos hc]
  generalize hcc:(cellM k s).toNat=c
  have hc24:c < 24:=by omega
  by_cases hfull:s.o≠5∧(d.mem.getD c []).length=4000
  ·rw [if_pos hfull];exact no 3
  ·rw [if_neg hfull]
   unfold memS
   by_cases e5:s.o=5
   ·rw [if_pos e5];exact go _ _ _ rfl (Nat.le_add_right _ _)
   ·rw [if_neg e5]
    by_cases e8:s.o=8
    ·rw [if_pos e8]
     have hw:(ldW d.mem k.vw c 0 true).length=24:=by
      have q:=(viewB_iff.1 (ldW_ok 0 true hm ha.vw hc24)).1
      have:=(memB_at hm hc24).1
      omega
     exact go _ _ _ rfl (Nat.le_of_eq (stM_sz _ _ hm hc24 hw))
    ·rw [if_neg e8]
     exact go _ _ _ rfl (Nat.le_of_eq (stM_sz _ _ hm hc24 hl))
 ·rw [if_neg hc];exact st _ 0
theorem stepM_sz {d:MD} (who late:Int) (h:machB d=true):(stepM d who late).1.codes=d.codes∧(stepM d who late).1.mem.length+szR (stepM d who late).1.mem≤d.mem.length+szR d.mem+25:=by
 by_cases hw:0≤who∧who < (d.cores.length:Int)
 ·obtain ⟨n,rfl⟩:∃ n:Nat,who=(n:Int):=⟨who.toNat,by omega⟩
  obtain ⟨k,code,s,ha⟩:=mach_at h (who:=n) (by omega)
  by_cases hr:k.st=0
  ·rw [stepM_at ha late hr];exact stepAt_sz late ha
  ·rw [stepM_over ha late hr];exact ⟨rfl,Nat.le_add_right _ _⟩
 ·rw [stepM_none late hw];exact ⟨rfl,Nat.le_add_right _ _⟩
theorem szK_all:∀ (l:List KD),(∀ (i:Nat) (x:KD),l[i]? =some x→x.regs.length=8∧x.vw.length=24)→szK l=32 * l.length
 | [],_=>rfl
 | x::r,h=>by
  have q:=szK_all r (fun i y hy=>h (i+1) y (by simpa using hy))
  have a:=h 0 x rfl
  simp [szK,q]
  omega
theorem mach_k {d:MD} (h:machB d=true):d.cores.length+szK d.cores≤132∧d.tr.length≤4000:=by
 have hl:=mach_len h
 have hk:szK d.cores=32 * d.cores.length:=szK_all _ fun i x hx=>by
  have hi:=(List.getElem?_eq_some_iff.1 hx).1
  obtain ⟨k,code,s,ha⟩:=mach_at h (who:=i) hi
  have e:k=x:=by have q:=ha.hk;rw [hx] at q;injection q with q;exact q.symm
  subst e
  have m24:=(memB_at ha.mem (i:=0) (by omega)).1
  have v24:=(viewB_iff.1 ha.vw).1
  exact ⟨ha.regs,by omega⟩
 unfold machB codesB trB at h
 simp only [Bool.and_eq_true,decide_eq_true_eq] at h
 have h1:=h.1.1
 exact ⟨by omega,h.2.2.1.1⟩
end
section
set_option linter.unusedSimpArgs false
set_option linter.unusedVariables false
set_option maxRecDepth 100000
open Go.RowKit
theorem Cur.but {w w':World} {p n c:Nat} {s:Option Addr} (h:Cur w p s n c) (hb:Below w.heap.size w w'):Cur w' p s n c:=by
 obtain ⟨i,h,c0,c1,c2,hf,hi,hi',hp⟩:=h
 exact ⟨i,h,(hb.cell (p:=⟨p,0,none⟩) hp).trans c0,(hb.cell (p:=⟨p,1,none⟩) hp).trans c1,(hb.cell (p:=⟨p,2,none⟩) hp).trans c2,fun j=>(hb.frozen (p:=⟨p,j,none⟩) hp).trans (hf j),hi,hi',by have:=hb.size;omega⟩
theorem Cur.lt {w:World} {p n c:Nat} {s:Option Addr} (h:Cur w p s n c):p < w.heap.size:=by
 obtain ⟨i,h,c0,c1,c2,hf,hi,hi',hp⟩:=h
 exact hp
theorem Cur.set {w:World} {p n c:Nat} {s:Option Addr} {a:Addr} {v:Value} (h:Cur w p s n c) (ha:a.block≠p):Cur (w.setCell a v) p s n c:=by
 obtain ⟨i,h,c0,c1,c2,hf,hi,hi',hp⟩:=h
 have e:∀ j,(w.setCell a v).cell? ⟨p,j,none⟩=w.cell? ⟨p,j,none⟩:=fun j=>by
  apply World.cell?_setCell_other
  intro e
  subst e
  exact ha rfl
 exact ⟨i,h,(e 0).trans c0,(e 1).trans c1,(e 2).trans c2,fun j=>by rw [World.frozen?_setCell];exact hf j,hi,hi',by simpa using hp⟩
theorem Bytes.below {w w':World} {p n B:Nat} {s:Option Addr} (h:Bytes w p s n) (hb:Below B w w') (hp:p≤B):Bytes w' p s n:=by
 rcases h with h | ⟨g,o,hs,hg,hc⟩
 ·exact .inl h
 ·refine .inr ⟨g,o,hs,hg,fun k hk=>?_⟩
  obtain ⟨b,h1,h2⟩:=hc k hk
  exact ⟨b,(hb.cell (p:=⟨g,o+k,none⟩) (by show g < _;omega)).trans h1,h2⟩
/- the cursor and the bytes together -/
def CB (w:World) (p:Nat) (s:Option Addr) (n c:Nat):Prop:=Cur w p s n c∧Bytes w p s n∧n≤maxLen
theorem CB.lt {w:World} {p n c:Nat} {s:Option Addr} (h:CB w p s n c):p < w.heap.size:=h.1.lt
theorem CB.alloc {w:World} {p n c:Nat} {s:Option Addr} (h:CB w p s n c) (o:Obj):CB (w.alloc o) p s n c:=
 ⟨h.1.but ((Below.refl _ _).alloc (Nat.le_refl _) _),h.2.1.below ((Below.refl w.heap.size w).alloc (Nat.le_refl _) o) (Nat.le_of_lt h.1.lt),h.2.2⟩
theorem CB.keep {w w':World} {p n c:Nat} {s:Option Addr} (h:CB w p s n c) (hb:Below w.heap.size w w'):CB w' p s n c:=
 ⟨h.1.but hb,h.2.1.below hb (Nat.le_of_lt h.1.lt),h.2.2⟩
theorem CB.set {w:World} {p n c:Nat} {s:Option Addr} {a:Addr} {v:Value} (h:CB w p s n c) (ha:p < a.block):CB (w.setCell a v) p s n c:=
 ⟨h.1.set (by omega),h.2.1.below ((Below.refl a.block w).setCell (p:=a) (Nat.le_refl _) v) (by omega),h.2.2⟩
theorem below_cb (p : Nat) (s : Option Addr) (n c : Nat) (q : Int) (w : World) (h : CB w p s n c) (hq0 : 0 < q) (hq : q ≤ 256) :
  Calls Tryz.prog 47 #[.pointer (some ⟨p,0,none⟩),.int .i64 q] w fun e w'=>∃ x:Int,e=.returned (.int .i64 x)∧0≤x∧x < q∧CB w' p s n c∧But p w w':=by
 refine (l1Below_t p s n c q w h.1 h.2.1 h.2.2 hq0 hq).mono ?_
 rintro e w' ⟨x,rfl,x0,x1,hc,hb⟩
 exact ⟨x,rfl,x0,x1,⟨hc,h.2.1.but hb (Nat.le_of_lt h.lt),h.2.2⟩,hb⟩
/- a slice literal of integers, picked from -/
set_option maxHeartbeats 400000 in
theorem pick_cb (p : Nat) (s : Option Addr) (n c : Nat) (g m : Nat) (l : List Int) (w : World) (h : CB w p s n c) (hm : m = l.length) (hl0 : 0 < l.length) (hl : l.length ≤ 256) (hg : g < w.heap.size) (hgp : g ≠ p) (hcell : ∀ i, i < l.length → w.cell? ⟨g, 0 + i, none⟩ = some (.int .i64 (l.getD i 0))) :
  Calls Tryz.prog 81 #[.pointer (some ⟨p,0,none⟩),.slice (some ⟨g,0,none⟩) m m] w fun e w'=>∃ x:Int,e=.returned (.int .i64 x)∧x∈l∧CB w' p s n c∧But p w w':=by
 subst hm
 have H:Hid (CB w p s n c):=h
 have HC:Hid (∀ i,i < l.length→w.cell? ⟨g,0+i,none⟩=some (.int .i64 (l.getD i 0))):=hcell
 clear h hcell
 go_enter Tryz.func81,Tryz.ntmps81
 go_wp2_with fail
 refine (below_cb p s n c (l.length:Int) w H.out (by omega) (by omega)).mono ?_
 rintro e w1 ⟨x,rfl,x0,x1,hc,hb⟩
 obtain ⟨k,rfl⟩:=Int.eq_ofNat_of_zero_le x0
 have hk:k < l.length:=by omega
 have f0:=(hb.cell (p:=⟨g,0+k,none⟩) hg hgp).trans (HC.out k hk)
 rw [Nat.zero_add] at f0
 have HM:Hid (l.getD k 0∈l):=by
  show _∈_
  rw [List.getD_eq_getElem?_getD,List.getElem?_eq_getElem hk]
  exact List.getElem_mem hk
 generalize l.getD k 0=y at f0 HM
 have HC1:Hid (CB w1 p s n c):=hc
 clear hc
 go_wp2
 go_ret
 exact ⟨y,rfl,HM.out,HC1.out,hb⟩
set_option maxHeartbeats 1000000 in
theorem new_cb (s : Option Addr) (n c : Nat) (w : World) (hb : Bytes w w.heap.size s n) (hn : n ≤ maxLen) :
  Calls Tryz.prog 45 #[.slice s n c] w fun e w'=>e=.returned (.pointer (some ⟨w.heap.size,0,none⟩))∧CB w' w.heap.size s n c∧Below w.heap.size w w'∧w'.heap.size=w.heap.size+1:=by
 have HB:Hid (Bytes w w.heap.size s n):=hb
 have HN:Hid (n≤maxLen):=hn
 clear hb
 unfold maxLen at hn
 go_enter Tryz.func45,Tryz.ntmps45
 go_wp2
 go_loop [3,4] (fun a i=>∃ (k:Nat) (x:Int),k≤n∧k≤4000∧i=.int .i64 k∧a=.int .i64 x) (fun _ i=>n - (intOf i).toNat)
 case atStart=>exact ⟨0,_,Nat.zero_le _,by omega,rfl,rfl⟩
 case round=>
  obtain ⟨k,x,hk,hk',rfl,rfl⟩:=hrel
  by_cases h:k < n∧k < 4000
  ·obtain ⟨h1,h2⟩:=h
   obtain ⟨g,off,hs,hc⟩:∃ g off,s=some ⟨g,off,none⟩∧∃ b:Int,w.cell? ⟨g,off+k,none⟩=some (.int .u8 b)∧0≤b∧b≤255:=by
    rcases HB.out with h | ⟨g,off,a,b,d⟩
    ·omega
    ·exact ⟨g,off,a,d k h1⟩
   subst hs
   obtain ⟨b,f0,b0,b1⟩:=hc
   have i0:(0:Int)≤(k:Int):=by omega
   have i1:(k:Int) < (n:Int):=by omega
   have i2:(k:Int) < 4000:=by omega
   go_wp2
   go_round
   case rel=>exact ⟨k+1,_,by omega,by omega,by go_num,rfl⟩
   case measure=>simp [intOf];omega
  ·have i2:(k:Int) < (n:Int)→¬ (k:Int) < 4000:=by omega
   by_cases h1:k < n
   ·have i1:(k:Int) < (n:Int):=by omega
    have i3:¬ (k:Int) < 4000:=by omega
    clear i2 h
    go_wp2
    go_ret
    refine ⟨rfl,⟨?_,HB.out.below ((Below.refl w.heap.size w).alloc (Nat.le_refl _) _) (Nat.le_refl _),HN.out⟩,(Below.refl _ _).alloc (Nat.le_refl _) _,by simp⟩
    exact ⟨0,x,by simp [go_sem],by simp [go_sem],by simp [go_sem],fun j=>by simp [go_sem],by omega,by omega,by simp⟩
   ·have i1:¬ (k:Int) < (n:Int):=by omega
    clear i2 h
    go_wp2
    go_ret
    refine ⟨rfl,⟨?_,HB.out.below ((Below.refl w.heap.size w).alloc (Nat.le_refl _) _) (Nat.le_refl _),HN.out⟩,(Below.refl _ _).alloc (Nat.le_refl _) _,by simp⟩
    exact ⟨0,x,by simp [go_sem],by simp [go_sem],by simp [go_sem],fun j=>by simp [go_sem],by omega,by omega,by simp⟩
end
section
set_option linter.unusedSimpArgs false
set_option linter.unusedVariables false
set_option maxRecDepth 100000
open Go.RowKit
def Res (w:World) (R:Nat):Prop:=(∀ j,j < 5→(w.cell? ⟨R,j,none⟩).isSome=true)∧(∀ j,w.frozen? ⟨R,j,none⟩=false)∧R < w.heap.size
theorem Res.but {w w':World} {R p:Nat} (h:Res w R) (hb:But p w w') (hp:R≠p):Res w' R:=
 ⟨fun j hj=>by rw [hb.cell (p:=⟨R,j,none⟩) h.2.2 hp];exact h.1 j hj,fun j=>by rw [hb.frozen (p:=⟨R,j,none⟩) h.2.2 hp];exact h.2.1 j,by have:=hb.size;have:=h.2.2;omega⟩
theorem Res.at {w:World} {R:Nat} (h:Res w R):∃ u0 u1 u2 u3 u4,w.cell? ⟨R,0,none⟩=some u0∧w.cell? ⟨R,1,none⟩=some u1∧w.cell? ⟨R,2,none⟩=some u2∧w.cell? ⟨R,3,none⟩=some u3∧w.cell? ⟨R,4,none⟩=some u4:=by
 obtain ⟨u0,h0⟩:=Option.isSome_iff_exists.1 (h.1 0 (by omega))
 obtain ⟨u1,h1⟩:=Option.isSome_iff_exists.1 (h.1 1 (by omega))
 obtain ⟨u2,h2⟩:=Option.isSome_iff_exists.1 (h.1 2 (by omega))
 obtain ⟨u3,h3⟩:=Option.isSome_iff_exists.1 (h.1 3 (by omega))
 obtain ⟨u4,h4⟩:=Option.isSome_iff_exists.1 (h.1 4 (by omega))
 exact ⟨u0,u1,u2,u3,u4,h0,h1,h2,h3,h4⟩
theorem res_new (w:World) (v0 v1 v2 v3 v4:Value) (T:TypeId):Res (w.alloc (.cells #[v0,v1,v2,v3,v4] T)) w.heap.size:=by
 refine ⟨fun j hj=>?_,fun j=>by simp [go_sem],by simp⟩
 match j,hj with
 | 0,_=>simp [go_sem]
 | 1,_=>simp [go_sem]
 | 2,_=>simp [go_sem]
 | 3,_=>simp [go_sem]
 | 4,_=>simp [go_sem]
/- five numbers in a block that may be written -/
structure Bo (w:World) (X:Nat) (o r a b m:Int):Prop where
 c0:w.cell? ⟨X,0,none⟩=some (.int .i64 o)
 c1:w.cell? ⟨X,1,none⟩=some (.int .i64 r)
 c2:w.cell? ⟨X,2,none⟩=some (.int .i64 a)
 c3:w.cell? ⟨X,3,none⟩=some (.int .i64 b)
 c4:w.cell? ⟨X,4,none⟩=some (.int .i64 m)
 fz:∀ j,w.frozen? ⟨X,j,none⟩=false
 lt:X < w.heap.size
theorem Bo.of {w w':World} {X:Nat} {o r a b m:Int} (h:Bo w X o r a b m) (hb:w'.heap[X]? =w.heap[X]?) (hs:w.heap.size≤w'.heap.size):Bo w' X o r a b m:=
 ⟨(World.cell?_of_block (w:=w) (a:=⟨X,0,none⟩) hb).trans h.c0,(World.cell?_of_block (w:=w) (a:=⟨X,1,none⟩) hb).trans h.c1,(World.cell?_of_block (w:=w) (a:=⟨X,2,none⟩) hb).trans h.c2,(World.cell?_of_block (w:=w) (a:=⟨X,3,none⟩) hb).trans h.c3,(World.cell?_of_block (w:=w) (a:=⟨X,4,none⟩) hb).trans h.c4,fun j=>(World.frozen?_of_block (w:=w) (a:=⟨X,j,none⟩) hb).trans (h.fz j),Nat.lt_of_lt_of_le h.lt hs⟩
theorem Bo.new {w:World} {o r a b m:Int} {T:TypeId}:Bo (w.alloc (.cells #[.int .i64 o,.int .i64 r,.int .i64 a,.int .i64 b,.int .i64 m] T)) w.heap.size o r a b m:=
 ⟨by simp [go_sem],by simp [go_sem],by simp [go_sem],by simp [go_sem],by simp [go_sem],fun j=>by simp [go_sem],by simp⟩
theorem Bo.set0 {w:World} {X:Nat} {o r a b m v:Int} (h:Bo w X o r a b m):Bo (w.setCell ⟨X,0,none⟩ (.int .i64 v)) X v r a b m:=by
 obtain ⟨h0,h1,h2,h3,h4,hf,hl⟩:=h
 exact ⟨by simp [go_sem,h0],by simp [go_sem,h1],by simp [go_sem,h2],by simp [go_sem,h3],by simp [go_sem,h4],fun j=>by rw [World.frozen?_setCell];exact hf j,by simpa using hl⟩
theorem Bo.set1 {w:World} {X:Nat} {o r a b m v:Int} (h:Bo w X o r a b m):Bo (w.setCell ⟨X,1,none⟩ (.int .i64 v)) X o v a b m:=by
 obtain ⟨h0,h1,h2,h3,h4,hf,hl⟩:=h
 exact ⟨by simp [go_sem,h0],by simp [go_sem,h1],by simp [go_sem,h2],by simp [go_sem,h3],by simp [go_sem,h4],fun j=>by rw [World.frozen?_setCell];exact hf j,by simpa using hl⟩
theorem Bo.set2 {w:World} {X:Nat} {o r a b m v:Int} (h:Bo w X o r a b m):Bo (w.setCell ⟨X,2,none⟩ (.int .i64 v)) X o r v b m:=by
 obtain ⟨h0,h1,h2,h3,h4,hf,hl⟩:=h
 exact ⟨by simp [go_sem,h0],by simp [go_sem,h1],by simp [go_sem,h2],by simp [go_sem,h3],by simp [go_sem,h4],fun j=>by rw [World.frozen?_setCell];exact hf j,by simpa using hl⟩
theorem Bo.set3 {w:World} {X:Nat} {o r a b m v:Int} (h:Bo w X o r a b m):Bo (w.setCell ⟨X,3,none⟩ (.int .i64 v)) X o r a v m:=by
 obtain ⟨h0,h1,h2,h3,h4,hf,hl⟩:=h
 exact ⟨by simp [go_sem,h0],by simp [go_sem,h1],by simp [go_sem,h2],by simp [go_sem,h3],by simp [go_sem,h4],fun j=>by rw [World.frozen?_setCell];exact hf j,by simpa using hl⟩
theorem Bo.set4 {w:World} {X:Nat} {o r a b m v:Int} (h:Bo w X o r a b m):Bo (w.setCell ⟨X,4,none⟩ (.int .i64 v)) X o r a b v:=by
 obtain ⟨h0,h1,h2,h3,h4,hf,hl⟩:=h
 exact ⟨by simp [go_sem,h0],by simp [go_sem,h1],by simp [go_sem,h2],by simp [go_sem,h3],by simp [go_sem,h4],fun j=>by rw [World.frozen?_setCell];exact hf j,by simpa using hl⟩
/- the state of a draw: the cursor, the place of the answer, the step so far, what was there -/
structure D7 (w0 w:World) (p:Nat) (s:Option Addr) (n c R X:Nat) (o r a b m:Int):Prop where
 cb:CB w p s n c
 res:Res w R
 bo:Bo w X o r a b m
 but:But p w0 w
 pR:p < R
 RX:R < X
 old:w0.heap.size≤R
theorem D7.step {w0 w w':World} {p n c R X:Nat} {s:Option Addr} {o r a b m:Int} (h:D7 w0 w p s n c R X o r a b m) (hc:CB w' p s n c) (hb:But p w w'):D7 w0 w' p s n c R X o r a b m:=
 have h1:=h.pR
 have h2:=h.RX
 ⟨hc,h.res.but hb (by omega),h.bo.of (hb.block X h.bo.lt (by omega)) hb.size,h.but.trans hb,h1,h2,h.old⟩
theorem D7.alloc {w0 w:World} {p n c R X:Nat} {s:Option Addr} {o r a b m:Int} (h:D7 w0 w p s n c R X o r a b m) (x:Obj):D7 w0 (w.alloc x) p s n c R X o r a b m:=
 h.step (h.cb.alloc x) ((But.refl _ _).alloc x)
theorem but_at {w0 w:World} {p X i:Nat} {v:Value} (h:But p w0 w) (hX:w0.heap.size≤X):But p w0 (w.setCell ⟨X,i,none⟩ v):=by
 have b:Below w0.heap.size w (w.setCell ⟨X,i,none⟩ v):=(Below.refl _ _).setCell (p:=⟨X,i,none⟩) hX _
 exact ⟨b.os.trans h.os,b.tape.trans h.tape,b.output.trans h.output,Nat.le_trans h.size b.size,fun k hk hp=>(b.block k hk).trans (h.block k hk hp)⟩
theorem Res.off {w:World} {R X i:Nat} {v:Value} (h:Res w R) (hX:R≠X):Res (w.setCell ⟨X,i,none⟩ v) R:=
 have e:(w.setCell ⟨X,i,none⟩ v).heap[R]? =w.heap[R]? :=Below.heap_setCell w ⟨X,i,none⟩ v R hX
 ⟨fun j hj=>by rw [World.cell?_of_block (w:=w) (a:=⟨R,j,none⟩) e];exact h.1 j hj,fun j=>by rw [World.frozen?_setCell];exact h.2.1 j,by simpa using h.2.2⟩
theorem D7.set0 {w0 w:World} {p n c R X:Nat} {s:Option Addr} {o r a b m v:Int} (h:D7 w0 w p s n c R X o r a b m):D7 w0 (w.setCell ⟨X,0,none⟩ (.int .i64 v)) p s n c R X v r a b m:=
 have h1:=h.pR
 have h2:=h.RX
 have h3:=h.old
 ⟨h.cb.set (by show p < X;omega),h.res.off (by omega),h.bo.set0,but_at h.but (by omega),h1,h2,h3⟩
theorem D7.set1 {w0 w:World} {p n c R X:Nat} {s:Option Addr} {o r a b m v:Int} (h:D7 w0 w p s n c R X o r a b m):D7 w0 (w.setCell ⟨X,1,none⟩ (.int .i64 v)) p s n c R X o v a b m:=
 have h1:=h.pR
 have h2:=h.RX
 have h3:=h.old
 ⟨h.cb.set (by show p < X;omega),h.res.off (by omega),h.bo.set1,but_at h.but (by omega),h1,h2,h3⟩
theorem D7.set2 {w0 w:World} {p n c R X:Nat} {s:Option Addr} {o r a b m v:Int} (h:D7 w0 w p s n c R X o r a b m):D7 w0 (w.setCell ⟨X,2,none⟩ (.int .i64 v)) p s n c R X o r v b m:=
 have h1:=h.pR
 have h2:=h.RX
 have h3:=h.old
 ⟨h.cb.set (by show p < X;omega),h.res.off (by omega),h.bo.set2,but_at h.but (by omega),h1,h2,h3⟩
theorem D7.set3 {w0 w:World} {p n c R X:Nat} {s:Option Addr} {o r a b m v:Int} (h:D7 w0 w p s n c R X o r a b m):D7 w0 (w.setCell ⟨X,3,none⟩ (.int .i64 v)) p s n c R X o r a v m:=
 have h1:=h.pR
 have h2:=h.RX
 have h3:=h.old
 ⟨h.cb.set (by show p < X;omega),h.res.off (by omega),h.bo.set3,but_at h.but (by omega),h1,h2,h3⟩
theorem D7.set4 {w0 w:World} {p n c R X:Nat} {s:Option Addr} {o r a b m v:Int} (h:D7 w0 w p s n c R X o r a b m):D7 w0 (w.setCell ⟨X,4,none⟩ (.int .i64 v)) p s n c R X o r a b v:=
 have h1:=h.pR
 have h2:=h.RX
 have h3:=h.old
 ⟨h.cb.set (by show p < X;omega),h.res.off (by omega),h.bo.set4,but_at h.but (by omega),h1,h2,h3⟩
theorem d7_below {w0 : World} {p n c R X : Nat} {s : Option Addr} {o r a b m : Int} (q : Int) (w : World) (h : D7 w0 w p s n c R X o r a b m) (hq0 : 0 < q) (hq : q ≤ 256) :
  Calls Tryz.prog 47 #[.pointer (some ⟨p,0,none⟩),.int .i64 q] w fun e w'=>∃ x:Int,e=.returned (.int .i64 x)∧0≤x∧x < q∧D7 w0 w' p s n c R X o r a b m:=by
 refine (below_cb p s n c q w h.cb hq0 hq).mono ?_
 rintro e w' ⟨x,rfl,x0,x1,hc,hb⟩
 exact ⟨x,rfl,x0,x1,h.step hc hb⟩
def set5v (w:World) (R:Nat) (v0 v1 v2 v3 v4:Value):World:=((((w.setCell ⟨R,0,none⟩ v0).setCell ⟨R,1,none⟩ v1).setCell ⟨R,2,none⟩ v2).setCell ⟨R,3,none⟩ v3).setCell ⟨R,4,none⟩ v4
theorem CB.set5v {w:World} {p n c R:Nat} {s:Option Addr} {v0 v1 v2 v3 v4:Value} (h:CB w p s n c) (hR:p < R):CB (set5v w R v0 v1 v2 v3 v4) p s n c:=((((h.set hR).set hR).set hR).set hR).set hR
theorem D7.fin {w0 w:World} {p n c R X:Nat} {s:Option Addr} {o r a b m:Int} {v0 v1 v2 v3 v4:Value} (h:D7 w0 w p s n c R X o r a b m):CB (set5v w R v0 v1 v2 v3 v4) p s n c∧But p w0 (set5v w R v0 v1 v2 v3 v4):=
 ⟨h.cb.set5v h.pR,but_at (but_at (but_at (but_at (but_at h.but h.old) h.old) h.old) h.old) h.old⟩
end
end Go.Proofs.YtlbeploopclegaaGreat
