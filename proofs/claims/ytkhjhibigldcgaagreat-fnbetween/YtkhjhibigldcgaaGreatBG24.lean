/- PlaceOf of the specification. Conditions: programs that fit. A place of a body, or none. No condition. MachineRun of the specification, whatever the machine and the picks. Conditions: the machine is of at most 2^20 cells, late is a number of 64 bits. Whether a step commits, as the specification's witness asks: it tells yes or no. Conditions: the program is right and fits; the core is there; a swap's register is there. -/
import Derived.Test.YtkhjhibigldcgaaGreatBG00
import Derived.Test.YtkhjhibigldcgaaGreatBG01
import Derived.Test.YtkhjhibigldcgaaGreatBG20
import Derived.Test.YtkhjhibigldcgaaGreatBG05
import Derived.Test.YtkhjhibigldcgaaGreatBG04
import Derived.Test.YtkhjhibigldcgaaGreatBG23
import Derived.Test.YtkhjhibigldcgaaGreatBProgOk
import Derived.Deep.QuietTactic
import Derived.BigQuiet
import Derived.Test.YtkhjhibigldcgaaGreatBG07
import Derived.Test.YtkhjhibigldcgaaGreatBG10
import Derived.Test.YtkhjhibigldcgaaGreatBG11
import Derived.Test.YtkhjhibigldcgaaGreatBG12
import Derived.Test.YtkhjhibigldcgaaGreatBG14
import Derived.Test.YtkhjhibigldcgaaGreatBKOkS
import Derived.Test.YtkhjhibigldcgaaGreatBE10Of
namespace Go.Proofs.YtkhjhibigldcgaaGreat
section
set_option linter.unusedSimpArgs false
set_option linter.unusedVariables false
set_option maxRecDepth 100000
open Go.RowKit
theorem placeV_none {p:PD} {b q:Int} (h:bodV p b=[]):placeV (bodV p b) q=(-1,false):=by rw [h];rfl
set_option maxRecDepth 100000 in
set_option maxHeartbeats 4000000 in
theorem specPlace_any (s s' : Option Addr) (c c' lo hi : Nat) (p : PD) (b q : Int) (w : World) (h : ProgR w lo hi s s' p) (hB : hi ≤ w.heap.size) (hf : Fits p) :
  Calls Tryz.prog 14 #[.agg #[.slice s p.caps.length c,.slice s' p.bods.length c'],.int .i64 b,.int .i64 q] w fun e w'=>e=.returned (.tuple #[.int .i64 (placeV (bodV p b) q).1,.bool (placeV (bodV p b) q).2])∧Below w.heap.size w w':=by
 have HP:=hidP h
 have HF:=hidP hf
 have hfn:=hf.2.1
 clear h hf
 obtain ⟨W,hW,bx,kb,zb⟩:=Bo2.new w (.slice s p.caps.length c) (.slice s' p.bods.length c') 27
 have HB2:=hidP bx
 have HK:=hidP kb
 obtain ⟨x0,x1⟩:=bx
 clear kb
 go_enter Tryz.func14,Tryz.ntmps14
 go_wp2_with fail
 refine (specProg_any s s' c c' lo hi p W (ProgR.keep' HP.out (Keep.of_below HK.out hB)) (by omega) HF.out).mono ?_
 rintro e w1 ⟨rfl,hb1⟩
 have K1:=hidP (HK.out.trans (hb1.mono (by omega)))
 clear x0 x1
 obtain ⟨x0,x1⟩:=HB2.out.keep (Keep.of_below hb1 (by omega))
 have hz1:=hb1.size
 clear hb1
 cases hp:progB p
 ·have E:=hidP (placeV_none (q:=q) (bodV_no (p:=p) (b:=b) (fun h=>by rw [hp] at h;cases h.1)))
  clear hp
  go_wp2
  refine bodyPost_ret (v:=.tuple #[.int .i64 (-1),.bool false]) (by simp [results,Tryz.results14,go_sem]) rfl ?_
  exact ⟨by rw [E.out],K1.out⟩
 ·have E:=hidP hp
  have hbn:=(progB_len hp).1
  clear hp
  cases hq:Plain.inB b 0 ((p.bods.length:Int) - 1)
  ·have E2:=hidP (placeV_none (q:=q) (bodV_no (p:=p) (b:=b) (fun h=>by simp only [Plain.inB,decide_eq_false_iff_not] at hq;exact hq ⟨h.2.1,by omega⟩)))
   have HQ:=hidP hq
   clear hq
   go_wp2_with (go_at_call 13;refine (l1In_is11 _ _ _ false _ HQ.out).mono ?_;rintro e w2 ⟨rfl,h2⟩;rw [h2];clear h2 w2)
   refine bodyPost_ret (v:=.tuple #[.int .i64 (-1),.bool false]) (by simp [results,Tryz.results14,go_sem]) rfl ?_
   exact ⟨by rw [E2.out],K1.out⟩
  ·have HQ:=hidP hq
   simp only [Plain.inB,decide_eq_true_eq] at hq
   obtain ⟨q0,q1⟩:=hq
   obtain ⟨j,rfl⟩:∃ j:Nat,b=j:=⟨b.toNat,by omega⟩
   have E2:=hidP (bodV_yes E.out q0 (by omega:(j:Int) < p.bods.length))
   have HR:=hidP (bodV_rt p (j:Int))
   obtain ⟨g,off,rfl,hg,s1,c1,hcell,hin⟩:=bods_at ((ProgR.keep' HP.out (Keep.of_below K1.out hB)).2) (i:=j) (by omega)
   have e3:p.bods.getD j []=bodV p (j:Int):=by rw [E2.out];rfl
   rw [e3] at hcell hin
   clear e3 E2
   obtain ⟨l,hl⟩:∃ l,bodV p (j:Int)=l:=⟨_,rfl⟩
   have HL:=hidP hl
   rw [hl] at hcell hin HR
   clear hl
   have HIN:=hidP hin
   have hl24:=HR.out.len
   clear hin
   have b1:(j:Int) < (p.bods.length:Int):=by omega
   go_wp2_with (go_at_call 13;refine (l1In_is11 _ _ _ true _ HQ.out).mono ?_;rintro e w2 ⟨rfl,h2⟩;rw [h2];clear h2 w2)
   refine (l11Starts_any s1 c1 lo hi l w1 HIN.out (by omega) HR.out).mono ?_
   rintro e w2 ⟨⟨g2,cap2,rfl,ho2,hg2⟩,hb2⟩
   have K2:=hidP (K1.out.trans (hb2.mono (by omega)))
   have hz2:=hb2.size
   have cells:∀ i,i≤l.length→w2.cell? ⟨g2,i,none⟩=some (.int .i64 (stV l i)):=fun i hi=>by
    have:=OwnN.cell (w:=w2) (base:=w1.heap.size) (g:=g2) (cap:=cap2) (ls:=stL l (l.length+1)) (by rw [stL_len];exact ho2) (i:=i) (by rw [stL_len];omega)
    rw [stL_at l (by omega:i < l.length+1)] at this
    exact this
   have HC:=hidP cells
   have c0:=cells l.length (Nat.le_refl _)
   have hbd:=stV_big HR.out (Nat.le_refl l.length)
   clear hb2 ho2 cells HIN hcell x0 x1
   obtain ⟨sn,hsn⟩:∃ sn,stV l l.length=sn:=⟨_,rfl⟩
   have HSN:=hidP hsn
   rw [hsn] at c0 hbd
   clear hsn
   cases hq2:Plain.inB q 0 (sn - 1)
   ·have E3:=hidP (placeV_no HR.out (q:=q) (fun h=>by rw [HSN.out] at h;simp only [Plain.inB,decide_eq_false_iff_not] at hq2;exact hq2 ⟨h.1,by omega⟩))
    have HQ2:=hidP hq2
    clear hq2
    go_wp2_with (go_at_call 13;refine (l1In_is11 _ _ _ false _ HQ2.out).mono ?_;rintro e w3 ⟨rfl,h2⟩;rw [h2];clear h2 w3)
    refine bodyPost_ret (v:=.tuple #[.int .i64 (-1),.bool false]) (by simp [results,Tryz.results14,go_sem]) rfl ?_
    exact ⟨by rw [HL.out,E3.out],K2.out⟩
   ·have HQ2:=hidP hq2
    simp only [Plain.inB,decide_eq_true_eq] at hq2
    obtain ⟨r0,r1⟩:=hq2
    go_wp2_with (go_at_call 13;refine (l1In_is11 _ _ _ true _ HQ2.out).mono ?_;rintro e w3 ⟨rfl,h2⟩;rw [h2];clear h2 w3)
    go_loopw [10] (fun i wr=>∃ k:Nat,k≤l.length∧i=.int .i64 k∧stV l k≤q∧wr=w2) (fun i _=>l.length - (intOf i).toNat)
    case atStart=>exact ⟨0,Nat.zero_le _,rfl,r0,rfl⟩
    case round=>
     obtain ⟨k,hk,rfl,hkq,rfl⟩:=hrel
     by_cases hlt:k < l.length
     ·have ck:=HC.out k hk
      have ck1:=HC.out (k+1) hlt
      have b2:(k:Int) < (l.length:Int):=by omega
      by_cases hs:q < stV l (k+1)
      ·have EP:=hidP (placeV_at HR.out hlt hkq hs)
       generalize stV l k=a1 at ck hkq EP
       generalize stV l (k+1)=a2 at ck1 hs
       go_wp2_with fail
       go_quiet (fail)
       go_wp2
       refine bodyPost_ret (v:=.tuple #[.int .i64 k,.bool (q==a1)]) (by simp [results,Tryz.results14,go_sem]) rfl ?_
       refine ⟨?_,K2.out.trans ((below_drewN wr nq).mono K2.out.size)⟩
       rw [HL.out,EP.out]
       simp [BEq.comm (a:=q),Bool.beq_eq_decide_eq,eq_comm]
      ·have hk2:stV l (k+1)≤q:=by omega
       have HK2:=hidP hk2
       generalize stV l (k+1)=a2 at ck1 hs hk2
       go_wp2
       go_roundw
       case rel=>exact ⟨k+1,by omega,by go_num,HK2.out,by first | trivial | rfl⟩
       case measure=>simp [intOf];omega
     ·have:k=l.length:=by omega
      subst this
      rw [HSN.out] at hkq
      omega
end
section
set_option linter.unusedSimpArgs false
set_option linter.unusedVariables false
set_option maxRecDepth 100000
open Go.RowKit
theorem place_cases {l:List I5} (h:Rt l) (q:Int):(placeV l q).1=-1∨∃ i:Nat,i < l.length∧(placeV l q).1=i:=by
 by_cases hq:0≤q∧q < stV l l.length
 ·obtain ⟨i,hi,a1,a2⟩:=place_is l.length hq.1 hq.2
  rw [placeV_at h hi a1 a2]
  exact .inr ⟨i,hi,rfl⟩
 ·rw [placeV_no h hq]
  exact .inl rfl
end
section
set_option linter.unusedSimpArgs false
set_option linter.unusedVariables false
set_option maxRecDepth 100000
open Go.RowKit
/- a machine in its box that is put there anew, a row of codes beside it -/
structure RnS (w V:World) (bm B Bc:Nat) (d:MD) (u:Value) (C:List Int):Prop where
 o:∃ (Hq:Nat→Prop) (vc vk vm vt:Value) (LC:List CV) (LK:List KV) (S:List RS),MQ V B Hq vc vk vm vt LC LK S d∧V.cell? ⟨bm,0,none⟩=some vc∧V.cell? ⟨bm,1,none⟩=some vk∧V.cell? ⟨bm,2,none⟩=some vm∧V.cell? ⟨bm,3,none⟩=some vt∧¬ Hq bm∧(∀ q,Hq q→B≤q)∧∀ q,u.ownBlock=some q→¬ Hq q
 fm:∀ j,V.frozen? ⟨bm,j,none⟩=false
 bx:BxT V bm
 n:OwnN V Bc u C
 k:Below Bc w V
 m:B≤V.heap.size
theorem RnS.keep {w V V':World} {bm B Bc:Nat} {d:MD} {u:Value} {C:List Int} (h:RnS w V bm B Bc d u C) (hBc:Bc≤B) (k:Below V.heap.size V V'):RnS w V' bm B Bc d u C:=by
 obtain ⟨Hq,vc,vk,vm,vt,LC,LK,S,q,c0,c1,c2,c3,hb,hB,sp⟩:=h.o
 have z:=h.bx.lt
 have m:=h.m
 exact ⟨⟨Hq,vc,vk,vm,vt,LC,LK,S,q.keep (fun b _ h1=>k.block b h1) k.size,(k.cell (p:=⟨bm,0,none⟩) z).trans c0,(k.cell (p:=⟨bm,1,none⟩) z).trans c1,(k.cell (p:=⟨bm,2,none⟩) z).trans c2,(k.cell (p:=⟨bm,3,none⟩) z).trans c3,hb,hB,sp⟩,fun j=>(k.frozen (p:=⟨bm,j,none⟩) z).trans (h.fm j),h.bx.same (k.block bm z),h.n.keep (fun b _ h1=>k.block b h1),h.k.trans (k.mono (by omega)),Nat.le_trans h.m k.size⟩
/- one code more -/
theorem RnS.app {w V V':World} {bm B Bc g cap n:Nat} {d:MD} {u:Value} {C C':List Int} (h:RnS w V bm B Bc d u C) (hd:machB d=true) (hn:OwnN V' Bc (.slice (some ⟨g,0,none⟩) n cap) C') (kk:Below Bc V V') (f:∀ k,k < V.heap.size→u.ownBlock≠some k→V'.heap[k]? =V.heap[k]? ∧k≠g):RnS w V' bm B Bc d (.slice (some ⟨g,0,none⟩) n cap) C':=by
 obtain ⟨Hq,vc,vk,vm,vt,LC,LK,S,q,c0,c1,c2,c3,hb,hB,sp⟩:=h.o
 have z:=h.bx.lt
 have eb:=(f bm z (own_bx h.n intNM h.bx)).1
 have hm:=mach_mem hd
 have ks:=kk.size
 refine ⟨⟨_,vc,vk,vm,vt,LC,LK,S,q.hop hm (fun k hk hq=>(f k hk (fun e=>sp k e hq)).1) kk.size,(World.cell?_of_block eb).trans c0,(World.cell?_of_block eb).trans c1,(World.cell?_of_block eb).trans c2,(World.cell?_of_block eb).trans c3,fun hh=>hh.elim (fun hh=>hb hh.2) (fun hh=>by omega),fun q hh=>hh.elim (fun hh=>hB q hh.2) (fun hh=>by have:=h.m;omega),fun b e hh=>?_⟩,fun j=>(World.frozen?_of_block eb).trans (h.fm j),h.bx.same eb,hn,h.k.trans kk,Nat.le_trans h.m kk.size⟩
 have hg:b < V'.heap.size:=(World.ownsRow.lt hn b e).2
 simp only [Value.ownBlock,Option.some.injEq] at e
 subst e
 rcases hh with ⟨h1,h2⟩ | h1
 ·by_cases hu:u.ownBlock=some g
  ·exact sp g hu h2
  ·exact (f g h1 hu).2 rfl
 ·omega
/- another machine put into the box -/
theorem RnS.put {w V V':World} {bm B Bc:Nat} {Hq:Nat→Prop} {d d':MD} {u vc vk vm vt vc' vk' vm' vt':Value} {C:List Int} {LC':List CV} {LK':List KV} {S':List RS} (h:RnS w V bm B Bc d u C) (hBc:Bc≤B) (hBm:B≤bm) (sp:∀ q,u.ownBlock=some q→¬ Hq q) (e0:V'.cell? ⟨bm,0,none⟩=some vc) (e1:V'.cell? ⟨bm,1,none⟩=some vk) (e2:V'.cell? ⟨bm,2,none⟩=some vm) (e3:V'.cell? ⟨bm,3,none⟩=some vt) (hb:¬ Hq bm) (hB:∀ q,Hq q→B≤q) (q':MQ V' B Hq vc' vk' vm' vt' LC' LK' S' d') (b':Below B V V') (fr:∀ b,¬ Hq b→V'.heap[b]? =V.heap[b]?):RnS w ((((V'.setCell ⟨bm,0,none⟩ vc').setCell ⟨bm,1,none⟩ vk').setCell ⟨bm,2,none⟩ vm').setCell ⟨bm,3,none⟩ vt') bm B Bc d' u C:=by
 have bx:=h.bx.same (fr bm hb)
 have nb:=own_bx h.n intNM h.bx
 have far:∀ k,k≠bm→((((V'.setCell ⟨bm,0,none⟩ vc').setCell ⟨bm,1,none⟩ vk').setCell ⟨bm,2,none⟩ vm').setCell ⟨bm,3,none⟩ vt').heap[k]? =V'.heap[k]? :=fun k hk=>(Below.heap_setCell _ ⟨bm,_,none⟩ _ k hk).trans ((Below.heap_setCell _ ⟨bm,_,none⟩ _ k hk).trans ((Below.heap_setCell _ ⟨bm,_,none⟩ _ k hk).trans (Below.heap_setCell _ ⟨bm,_,none⟩ _ k hk)))
 have bs:=bx.set (g:=bm) (o:=0) (v:=vc')
 have m:=h.m
 refine ⟨⟨Hq,vc',vk',vm',vt',LC',LK',S',MQ.offB (MQ.offB (MQ.offB (MQ.offB q' bx) bx.set) bx.set.set) bx.set.set.set,?_,?_,?_,?_,hb,hB,sp⟩,fun j=>?_,bx.set.set.set.set,ownKeep' h.n (fun k e=>(far k (fun e2=>nb (by rw [e,e2]))).trans (fr k (sp k e))),h.k.trans (((((b'.setCell (p:=⟨bm,0,none⟩) hBm _).setCell (p:=⟨bm,1,none⟩) hBm _).setCell (p:=⟨bm,2,none⟩) hBm _).setCell (p:=⟨bm,3,none⟩) hBm _).mono hBc),by have:=b'.size;simp;omega⟩
 ·simp [go_sem,e0,e1,e2,e3]
 ·simp [go_sem,e0,e1,e2,e3]
 ·simp [go_sem,e0,e1,e2,e3]
 ·simp [go_sem,e0,e1,e2,e3]
 ·rw [World.frozen?_setCell,World.frozen?_setCell,World.frozen?_setCell,World.frozen?_setCell]
  exact (World.frozen?_of_block (fr bm hb)).trans (h.fm j)
theorem RnS.fin {w V:World} {bm B Bc:Nat} {d:MD} {u:Value} {C:List Int} (h:RnS w V bm B Bc d u C):∃ (p:MP) (s:Option Addr) (c:Nat),u=.slice s C.length c∧V.cell? ⟨bm,0,none⟩=some (.slice p.s1 d.codes.length p.c1)∧V.cell? ⟨bm,1,none⟩=some (.slice p.s2 d.cores.length p.c2)∧V.cell? ⟨bm,2,none⟩=some (.slice p.s3 d.mem.length p.c3)∧V.cell? ⟨bm,3,none⟩=some (.slice p.s4 d.tr.length p.c4)∧MaO V B V.heap.size p d∧(∀ q,u.ownBlock=some q→∀ a∈p.as d,a.block≠q)∧∃ LC LK S,MQ0 V B (.slice p.s1 d.codes.length p.c1) (.slice p.s2 d.cores.length p.c2) (.slice p.s3 d.mem.length p.c3) (.slice p.s4 d.tr.length p.c4) LC LK S d:=by
 obtain ⟨Hq,vc,vk,vm,vt,LC,LK,S,q,c0,c1,c2,c3,-,-,sp⟩:=h.o
 obtain ⟨p,e1,e2,e3,e4,mo,hp⟩:=q.mo
 subst e1 e2 e3 e4
 obtain ⟨s,c,e⟩:=h.n.sl
 exact ⟨p,s,c,e,c0,c1,c2,c3,mo,fun q' e a ha e2=>sp q' e (e2▸hp Hq q.hh a ha),LC,LK,S,q.toMQ0⟩
theorem rnM_codes:∀ (l:List ND) {d:MD},machB d=true→(rnM d l).codes=d.codes
 | [],_,_=>rfl
 | x::r,d,h=>(rnM_codes r (stepM_ok x.who x.v h)).trans (stepM_sz x.who x.v h).1
theorem rnM_cores {d:MD} (l:List ND) (h:machB d=true):(rnM d l).cores.length=d.cores.length:=by
 rw [mach_len (rnM_ok l h),rnM_codes l h,mach_len h]
end
section
set_option linter.unusedSimpArgs false
set_option linter.unusedVariables false
set_option maxRecDepth 100000
open Go.RowKit
theorem three_new (w:World) (a0 a1 b0 b1 b2 b3 b4 m0 m1 m2 m3:Value) (T1 T2 T3:TypeId):∃ V,((w.alloc (.cells #[a0,a1] T1)).alloc (.cells #[b0,b1,b2,b3,b4] T2)).alloc (.cells #[m0,m1,m2,m3] T3)=V∧Below w.heap.size w V∧w.heap.size+2 < V.heap.size∧V.cell? ⟨w.heap.size,0,none⟩=some a0∧V.cell? ⟨w.heap.size,1,none⟩=some a1∧V.cell? ⟨w.heap.size+1,0,none⟩=some b0∧V.cell? ⟨w.heap.size+1,1,none⟩=some b1∧V.cell? ⟨w.heap.size+1+1,0,none⟩=some m0∧V.cell? ⟨w.heap.size+1+1,1,none⟩=some m1∧V.cell? ⟨w.heap.size+1+1,2,none⟩=some m2∧V.cell? ⟨w.heap.size+1+1,3,none⟩=some m3:=by
 refine ⟨_,rfl,((((Below.refl _ _).alloc (Nat.le_refl _) _).alloc (by simp) _).alloc (by first | (simp;done) | (simp;omega)) _),by first | (simp;done) | (simp;omega),?_,?_,?_,?_,?_,?_,?_,?_⟩<;>simp [go_sem]
set_option maxRecDepth 100000 in
set_option maxHeartbeats 4000000 in
theorem specCommits_any (s s' : Option Addr) (c c' lo hi : Nat) (p : PD) (n : Nat) (q o r a b m : Int) (s1 s2 s3 s4 : Option Addr) (c1 c2 c3 c4 lo' hi' : Nat) (d : MD) (w : World) (h : ProgR w lo hi s s' p) (hB : hi ≤ w.heap.size) (hf : Fits p) (hp : progB p = true) (hn : n < p.bods.length) (hd : KsR w lo' hi' s2 d.cores) (hB' : hi' ≤ w.heap.size) (k : KD) (hk : d.cores[n]? = some k) (hr : o = 8 → 0 ≤ r ∧ r < (k.regs.length : Int)) :
  Calls Tryz.prog 29 #[.agg #[.slice s p.caps.length c,.slice s' p.bods.length c'],.int .i64 n,.int .i64 q,.agg #[.int .i64 o,.int .i64 r,.int .i64 a,.int .i64 b,.int .i64 m],.agg #[.slice s1 d.codes.length c1,.slice s2 d.cores.length c2,.slice s3 d.mem.length c3,.slice s4 d.tr.length c4]] w fun e w'=>∃ z:Bool,e=.returned (.bool z)∧Below w.heap.size w w':=by
 have H:=hidL h
 have HD:=hidL hd
 have HK:=hidL hk
 have HR:=hidL hr
 have HP:=hidL hp
 clear h hd hk hr hp
 obtain ⟨V,hV,kV,zV,p0,p1,t0,t1,m0,m1,m2,m3⟩:=three_new w (.slice s p.caps.length c) (.slice s' p.bods.length c') (.int .i64 o) (.int .i64 r) (.int .i64 a) (.int .i64 b) (.int .i64 m) (.slice s1 d.codes.length c1) (.slice s2 d.cores.length c2) (.slice s3 d.mem.length c3) (.slice s4 d.tr.length c4) 27 65 35
 have HV:=hidL hV
 have KV:=hidL kV
 have ZV:=hidL zV
 have P0:=hidL p0
 have P1:=hidL p1
 have T0:=hidL t0
 have T1:=hidL t1
 have M0:=hidL m0
 have M1:=hidL m1
 have M2:=hidL m2
 have M3:=hidL m3
 clear hV kV zV p0 p1 t0 t1 m0 m1 m2 m3
 go_enter Tryz.func29,Tryz.ntmps29
 go_upto_region 1 with fail
 rw [HV.out]
 clear HV
 have n0:(0:Int)≤(n:Int):=by omega
 by_cases ho:o=8
 ·obtain ⟨hr0,hr1⟩:=HR.out ho
  obtain ⟨g,off,u1,x1,u2,x2,es,-,hg,-,f1,-,-,i1,-⟩:=(HD.out.keep (Keep.of_below KV.out hB')).at HK.out
  have hnd:n < d.cores.length:=(List.getElem?_eq_some_iff.1 HK.out).1
  obtain ⟨j,rfl⟩:∃ j:Nat,r=(j:Int):=⟨r.toNat,by omega⟩
  have hj:j < k.regs.length:=by omega
  have i2:=i1
  rcases i2 with i2 | ⟨g2,o2,e2,-,hg2,hc⟩
  ·rw [i2] at hj;simp at hj
  have cj:=hc j hj
  subst es e2
  have hz:=KV.out.size
  have t0:=T0.out
  have zt:w.heap.size+1 < V.heap.size:=by have:=ZV.out;omega
  have zm:w.heap.size+1+1 < V.heap.size:=by have:=ZV.out;omega
  have m1:=M1.out
  have t1:=T1.out
  have hgV:g < V.heap.size:=by omega
  have hgV2:g2 < V.heap.size:=by omega
  have ob:(o==8)=true:=by simp [ho]
  have b1:(n:Int) < (d.cores.length:Int):=by omega
  have b2:(j:Int) < (k.regs.length:Int):=by omega
  have b3:(0:Int)≤(j:Int):=by omega
  clear hc i1 hr0 hr1
  go_wp2_with fail
  have hne:=ext_ne V
  have v1:=Ext.fit m1 zm
  have v2:=Ext.fit t1 zt
  have v3:=Ext.fit f1 hgV
  have v4:=Ext.fit cj hgV2
  clear m1 t1 f1 cj t0
  refine regionExt V (by kernel_rfl) (by kernel_rfl) ?_
  repeat (go_big_quiet_step (fail))
  refine wpQuiet_nil ?_
  rintro w5 ⟨X5,rfl⟩
  have kk:=X5.b
  go_wp2
  go_ret
  exact ⟨_,rfl,KV.out.trans (kk.mono hz)⟩
 ·have t0:=T0.out
  have ob:(o==8)=false:=by simp [ho]
  have p0:=P0.out
  have p1:=P1.out
  have hz:=KV.out.size
  go_wp2_with fail
  refine (specPlace_any s s' c c' lo hi p n q V (ProgR.keep' H.out (Keep.of_below KV.out hB)) (by omega) hf).mono ?_
  rintro e w1 ⟨rfl,hb1⟩
  have eb:bodV p n=p.bods.getD n []:=by unfold bodV;rw [if_pos ⟨HP.out,by omega,by omega⟩];rfl
  have pc:=place_cases (bodV_rt p n) q
  rw [eb] at pc ⊢
  obtain ⟨pv,hpv⟩:∃ x,placeV (p.bods.getD n []) q=x:=⟨_,rfl⟩
  rw [hpv] at pc ⊢
  obtain ⟨pl,pb⟩:=pv
  clear hpv eb
  have hz1:=hb1.size
  have KW:=hidL (KV.out.trans (hb1.mono hz))
  try dsimp only at pc ⊢
  rcases pc with pc | ⟨i,hi,pc⟩
  ·subst pc
   clear p0 p1 t0
   go_wp2
   go_ret
   exact ⟨_,rfl,KW.out⟩
  ·subst pc
   have q1:=(hb1.cell (p:=⟨w.heap.size,1,none⟩) (by have:=ZV.out;show w.heap.size < _;omega)).trans p1
   have hbs:=(ProgR.keep' H.out (Keep.of_below KW.out hB)).2
   rcases hbs with hbs | ⟨g,off,es,-,hg,hc⟩
   ·rw [hbs] at hn;simp at hn
   obtain ⟨sb,cb,y1,y2⟩:=hc n hn
   obtain ⟨L,hL⟩:∃ L,p.bods.getD n []=L:=⟨_,rfl⟩
   rw [hL] at hi y1 y2
   rcases y2 with y2 | ⟨g2,o2,e2,-,hg2,hc2⟩
   ·rw [y2] at hi;simp at hi
   obtain ⟨x0,x1,x2,x3,x4⟩:=hc2 i hi
   subst es e2
   clear p0 p1 t0 hc hc2 hL
   have b1:(n:Int) < (p.bods.length:Int):=by omega
   have b2:(i:Int) < (L.length:Int):=by omega
   have b3:(0:Int)≤(i:Int):=by omega
   go_wp2_with (go_at_call 35;refine (specSize_any _ _ _ _ _ _).mono ?_;rintro e w2 ⟨rfl,rfl⟩)
   go_ret
   exact ⟨_,rfl,KW.out.trans (((Below.refl _ _).alloc (Nat.le_refl _) _).mono (by omega))⟩
end
end Go.Proofs.YtkhjhibigldcgaaGreat
