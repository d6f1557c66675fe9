/- MachineRun of the specification, whatever the machine and the picks. Conditions: the machine is of at most 2^20 cells, late is a number of 64 bits. -/
import Derived.Test.YtepfpbcjklaenaaGreatJG23
import Derived.Test.YtepfpbcjklaenaaGreatJG24
import Derived.Test.YtepfpbcjklaenaaGreatJKOkS
namespace Go.Proofs.YtepfpbcjklaenaaGreat
set_option linter.unusedSimpArgs false
set_option linter.unusedVariables false
set_option maxRecDepth 100000
open Go.RowKit
/- a machine in its box that is put there anew, a row of codes beside it -/
structure RnS (w V:World) (bm B Bc:Nat) (d:MD) (u:Value) (C:List Int):Prop where
 o:∃ (Hq:Nat→Prop) (vc vk vm vt:Value) (LC:List CV) (LK:List KV) (S:List RS),MQ V B Hq vc vk vm vt LC LK S d∧V.cell? ⟨bm,0,none⟩=some vc∧V.cell? ⟨bm,1,none⟩=some vk∧V.cell? ⟨bm,2,none⟩=some vm∧V.cell? ⟨bm,3,none⟩=some vt∧¬ Hq bm∧(∀ q,Hq q→B≤q)∧∀ q,u.ownBlock=some q→¬ Hq q
 fm:∀ j,V.frozen? ⟨bm,j,none⟩=false
 bx:BxT V bm
 n:OwnN V Bc u C
 k:Below Bc w V
 m:B≤V.heap.size
theorem RnS.keep {w V V':World} {bm B Bc:Nat} {d:MD} {u:Value} {C:List Int} (h:RnS w V bm B Bc d u C) (hBc:Bc≤B) (k:Below V.heap.size V V'):RnS w V' bm B Bc d u C:=by
 obtain ⟨Hq,vc,vk,vm,vt,LC,LK,S,q,c0,c1,c2,c3,hb,hB,sp⟩:=h.o
 have z:=h.bx.lt
 have m:=h.m
 exact ⟨⟨Hq,vc,vk,vm,vt,LC,LK,S,q.keep (fun b _ h1=>k.block b h1) k.size,(k.cell (p:=⟨bm,0,none⟩) z).trans c0,(k.cell (p:=⟨bm,1,none⟩) z).trans c1,(k.cell (p:=⟨bm,2,none⟩) z).trans c2,(k.cell (p:=⟨bm,3,none⟩) z).trans c3,hb,hB,sp⟩,fun j=>(k.frozen (p:=⟨bm,j,none⟩) z).trans (h.fm j),h.bx.same (k.block bm z),h.n.keep (fun b _ h1=>k.block b h1),h.k.trans (k.mono (by omega)),Nat.le_trans h.m k.size⟩
/- one code more -/
theorem RnS.app {w V V':World} {bm B Bc g cap n:Nat} {d:MD} {u:Value} {C C':List Int} (h:RnS w V bm B Bc d u C) (hd:machB d=true) (hn:OwnN V' Bc (.slice (some ⟨g,0,none⟩) n cap) C') (kk:Below Bc V V') (f:∀ k,k < V.heap.size→u.ownBlock≠some k→V'.heap[k]? =V.heap[k]? ∧k≠g):RnS w V' bm B Bc d (.slice (some ⟨g,0,none⟩) n cap) C':=by
 obtain ⟨Hq,vc,vk,vm,vt,LC,LK,S,q,c0,c1,c2,c3,hb,hB,sp⟩:=h.o
 have z:=h.bx.lt
 have eb:=(f bm z (own_bx h.n intNM h.bx)).1
 have hm:=mach_mem hd
 have ks:=kk.size
 refine ⟨⟨_,vc,vk,vm,vt,LC,LK,S,q.hop hm (fun k hk hq=>(f k hk (fun e=>sp k e hq)).1) kk.size,(World.cell?_of_block eb).trans c0,(World.cell?_of_block eb).trans c1,(World.cell?_of_block eb).trans c2,(World.cell?_of_block eb).trans c3,fun hh=>hh.elim (fun hh=>hb hh.2) (fun hh=>by omega),fun q hh=>hh.elim (fun hh=>hB q hh.2) (fun hh=>by have:=h.m;omega),fun b e hh=>?_⟩,fun j=>(World.frozen?_of_block eb).trans (h.fm j),h.bx.same eb,hn,h.k.trans kk,Nat.le_trans h.m kk.size⟩
 have hg:b < V'.heap.size:=(World.ownsRow.lt hn b e).2
 simp only [Value.ownBlock,Option.some.injEq] at e
 subst e
 rcases hh with ⟨h1,h2⟩ | h1
 ·by_cases hu:u.ownBlock=some g
  ·exact sp g hu h2
  ·exact (f g h1 hu).2 rfl
 ·omega
/- another machine put into the box -/
theorem RnS.put {w V V':World} {bm B Bc:Nat} {Hq:Nat→Prop} {d d':MD} {u vc vk vm vt vc' vk' vm' vt':Value} {C:List Int} {LC':List CV} {LK':List KV} {S':List RS} (h:RnS w V bm B Bc d u C) (hBc:Bc≤B) (hBm:B≤bm) (sp:∀ q,u.ownBlock=some q→¬ Hq q) (e0:V'.cell? ⟨bm,0,none⟩=some vc) (e1:V'.cell? ⟨bm,1,none⟩=some vk) (e2:V'.cell? ⟨bm,2,none⟩=some vm) (e3:V'.cell? ⟨bm,3,none⟩=some vt) (hb:¬ Hq bm) (hB:∀ q,Hq q→B≤q) (q':MQ V' B Hq vc' vk' vm' vt' LC' LK' S' d') (b':Below B V V') (fr:∀ b,¬ Hq b→V'.heap[b]? =V.heap[b]?):RnS w ((((V'.setCell ⟨bm,0,none⟩ vc').setCell ⟨bm,1,none⟩ vk').setCell ⟨bm,2,none⟩ vm').setCell ⟨bm,3,none⟩ vt') bm B Bc d' u C:=by
 have bx:=h.bx.same (fr bm hb)
 have nb:=own_bx h.n intNM h.bx
 have far:∀ k,k≠bm→((((V'.setCell ⟨bm,0,none⟩ vc').setCell ⟨bm,1,none⟩ vk').setCell ⟨bm,2,none⟩ vm').setCell ⟨bm,3,none⟩ vt').heap[k]? =V'.heap[k]? :=fun k hk=>(Below.heap_setCell _ ⟨bm,_,none⟩ _ k hk).trans ((Below.heap_setCell _ ⟨bm,_,none⟩ _ k hk).trans ((Below.heap_setCell _ ⟨bm,_,none⟩ _ k hk).trans (Below.heap_setCell _ ⟨bm,_,none⟩ _ k hk)))
 have bs:=bx.set (g:=bm) (o:=0) (v:=vc')
 have m:=h.m
 refine ⟨⟨Hq,vc',vk',vm',vt',LC',LK',S',MQ.offB (MQ.offB (MQ.offB (MQ.offB q' bx) bx.set) bx.set.set) bx.set.set.set,?_,?_,?_,?_,hb,hB,sp⟩,fun j=>?_,bx.set.set.set.set,ownKeep' h.n (fun k e=>(far k (fun e2=>nb (by rw [e,e2]))).trans (fr k (sp k e))),h.k.trans (((((b'.setCell (p:=⟨bm,0,none⟩) hBm _).setCell (p:=⟨bm,1,none⟩) hBm _).setCell (p:=⟨bm,2,none⟩) hBm _).setCell (p:=⟨bm,3,none⟩) hBm _).mono hBc),by have:=b'.size;simp;omega⟩
 ·simp [go_sem,e0,e1,e2,e3]
 ·simp [go_sem,e0,e1,e2,e3]
 ·simp [go_sem,e0,e1,e2,e3]
 ·simp [go_sem,e0,e1,e2,e3]
 ·rw [World.frozen?_setCell,World.frozen?_setCell,World.frozen?_setCell,World.frozen?_setCell]
  exact (World.frozen?_of_block (fr bm hb)).trans (h.fm j)
theorem RnS.fin {w V:World} {bm B Bc:Nat} {d:MD} {u:Value} {C:List Int} (h:RnS w V bm B Bc d u C):∃ (p:MP) (s:Option Addr) (c:Nat),u=.slice s C.length c∧V.cell? ⟨bm,0,none⟩=some (.slice p.s1 d.codes.length p.c1)∧V.cell? ⟨bm,1,none⟩=some (.slice p.s2 d.cores.length p.c2)∧V.cell? ⟨bm,2,none⟩=some (.slice p.s3 d.mem.length p.c3)∧V.cell? ⟨bm,3,none⟩=some (.slice p.s4 d.tr.length p.c4)∧MaO V B V.heap.size p d∧∀ q,u.ownBlock=some q→∀ a∈p.as d,a.block≠q:=by
 obtain ⟨Hq,vc,vk,vm,vt,LC,LK,S,q,c0,c1,c2,c3,-,-,sp⟩:=h.o
 obtain ⟨p,e1,e2,e3,e4,mo,hp⟩:=q.mo
 subst e1 e2 e3 e4
 obtain ⟨s,c,e⟩:=h.n.sl
 exact ⟨p,s,c,e,c0,c1,c2,c3,mo,fun q' e a ha e2=>sp q' e (e2▸hp Hq q.hh a ha)⟩
theorem finS {w V Z : World} {B Bc : Nat} {m0 m1 m2 m3 : Value} {p : MP} {D : MD} {C : List Int} {s : Option Addr} {c : Nat} (hb : Bc2 V w.heap.size m0 m1 m2 m3) (hB : w.heap.size + 1 < B) (hBc : w.heap.size + 1 < Bc) (mo : MaO V B V.heap.size p D) (hn : OwnN V Bc (.slice s C.length c) C) (sp : ∀ q, (Value.slice s C.length c).ownBlock = some q → ∀ a ∈ p.as D, a.block ≠ q) (hk : Below w.heap.size w V) (fz : ∀ q, q ≠ w.heap.size + 1 → Z.heap[q]? = V.heap[q]?) (sz : Z.heap.size = V.heap.size) (bz : ∀ (B : Nat) (A : World), Below B A V → B ≤ w.heap.size + 1 → Below B A Z) :
  RunQ8 w D C (.returned (.tuple #[.agg #[.slice p.s1 D.codes.length p.c1,.slice p.s2 D.cores.length p.c2,.slice p.s3 D.mem.length p.c3,.slice p.s4 D.tr.length p.c4],.slice s C.length c])) Z:=
 ⟨p,s,c,rfl,(mo.keep (fun k h1 _=>fz k (by omega))).mono (by omega) (by omega),ownLow' (ownKeep' hn (fun k e=>fz k (by have:=(World.ownsRow.lt hn k e).1;omega))) (by omega),sp,bz _ _ hk (by omega)⟩
theorem rnM_codes:∀ (l:List ND) {d:MD},machB d=true→(rnM d l).codes=d.codes
 | [],_,_=>rfl
 | x::r,d,h=>(rnM_codes r (stepM_ok x.who x.v h)).trans (stepM_sz x.who x.v h).1
theorem rnM_cores {d:MD} (l:List ND) (h:machB d=true):(rnM d l).cores.length=d.cores.length:=by
 rw [mach_len (rnM_ok l h),rnM_codes l h,mach_len h]
set_option maxRecDepth 100000 in
set_option maxHeartbeats 8000000 in
theorem specMRun_any (s1 s2 s3 s4 s5 : Option Addr) (c1 c2 c3 c4 c5 lo hi lo' hi' : Nat) (d : MD) (l : List ND) (w : World) (h : MaR w lo hi s1 s2 s3 s4 d) (h' : NtsR w lo' hi' s5 l) (hB : hi ≤ w.heap.size) (hB' : hi' ≤ w.heap.size) (hf : MaSz d ≤ 1048576) (hl : l.length ≤ 1048576) (hlate : ∀ x ∈ l, x.v ≤ 9223372036854775807) :
  Calls Tryz.prog 6 #[.agg #[.slice s1 d.codes.length c1,.slice s2 d.cores.length c2,.slice s3 d.mem.length c3,.slice s4 d.tr.length c4],.slice s5 l.length c5] w (RunQ8 w (runMb d l) (runMc d l)):=by
 obtain ⟨W0,hW0⟩:∃ W,(w.alloc (.cells #[.slice s1 d.codes.length c1,.slice s2 d.cores.length c2,.slice s3 d.mem.length c3,.slice s4 d.tr.length c4] 40)).alloc (.cells #[.slice none 0 0,.slice none 0 0,.slice none 0 0,.slice none 0 0] 40)=W:=⟨_,rfl⟩
 obtain ⟨bc,kW0⟩:=bc2_new hW0
 have zW0:W0.heap.size=w.heap.size+1+1:=by subst hW0;simp
 obtain ⟨W,hW⟩:∃ W,W0.alloc (.cells #[] 3)=W:=⟨_,rfl⟩
 have kW1:Below W0.heap.size W0 W:=by subst hW;exact (Below.refl _ _).alloc (Nat.le_refl _) _
 have zW:W.heap.size=w.heap.size+1+1+1:=by subst hW;simp [zW0]
 have hE:OwnN W (w.heap.size+1+1) (.slice (some ⟨w.heap.size+1+1,0,none⟩) 0 0) []:=by
  have q:=ownN_empty (w:=W0) (base:=w.heap.size+1+1) (by omega)
  rw [hW,zW0] at q
  exact q
 have HW:=hidN hW
 have HW0:=hidN hW0
 have H:=hidN h
 have H':=hidN h'
 have HF:=hidN hf
 have HLT:=hidN hlate
 have HE:=hidN hE
 have BC0:=hidN (bc.below kW1 (by omega))
 have KW:=hidN (kW0.trans (kW1.mono (by omega)))
 obtain ⟨RS,hRS⟩:∃ R,runMb d l=R:=⟨_,rfl⟩
 obtain ⟨RC,hRC⟩:∃ R,runMc d l=R:=⟨_,rfl⟩
 have ES:=hidN hRS
 have EC:=hidN hRC
 rw [hRS,hRC]
 have ZW0:=hidN zW0
 have ZW:=hidN zW
 have zl:w.heap.size < W.heap.size:=by omega
 obtain ⟨m0,m1,m2,m3,-,-,-,-,-,zz⟩:=BC0.out
 clear hRS hRC hW hW0 kW0 kW1 bc h h' hf hlate hE zW0 zW
 go_enter Tryz.func6,Tryz.ntmps6
 go_upto_region 2 with fail
 rw [HW0.out]
 rw [HW.out]
 go_wp2_with fail
 refine (l8Copy_any s1 s2 s3 s4 c1 c2 c3 c4 lo hi d W (H.out.keep (Keep.of_below KW.out hB)) (by omega) HF.out).mono ?_
 rintro e w2 ⟨vc,vk,vm,vt,LC,LK,S,rfl,q2,hb2,hz2⟩
 obtain ⟨p,rfl,rfl,rfl,rfl,-⟩:=q2.mo
 obtain ⟨Y,hY⟩:∃ Y,w2.alloc (.cells #[.slice p.s1 d.codes.length p.c1,.slice p.s2 d.cores.length p.c2,.slice p.s3 d.mem.length p.c3,.slice p.s4 d.tr.length p.c4] 40)=Y:=⟨_,rfl⟩
 have kY:Below w2.heap.size w2 Y:=by subst hY;exact (Below.refl _ _).alloc (Nat.le_refl _) _
 have sY:w2.heap.size < Y.heap.size:=by subst hY;simp
 have zW:=ZW.out
 have RJ:=hidN (show RnS W Y w2.heap.size W.heap.size (w.heap.size+1+1) d (.slice (some ⟨w.heap.size+1+1,0,none⟩) 0 0) [] from
  ⟨⟨_,_,_,_,_,LC,LK,S,(q2.toH (Nat.le_of_lt hz2)).re (w':=Y) (fun b _ h1=>kY.block b h1) kY.size,by subst hY;simp [go_sem],by subst hY;simp [go_sem],by subst hY;simp [go_sem],by subst hY;simp [go_sem],fun h=>h.elim (fun h=>by omega) (fun h=>by omega),fun q h=>h.elim (fun h=>h.2) (fun h=>by omega),fun q e h=>by
   simp only [Value.ownBlock,Option.some.injEq] at e
   subst e
   exact h.elim (fun h=>by have:=h.2;omega) (fun h=>by omega)⟩,by subst hY;intro j;simp [go_sem],by subst hY;exact BxT.new _ _,HE.out.keep (fun b _ h1=>(kY.block b (by omega)).trans (hb2.block b h1)),(hb2.mono (by omega)).trans (kY.mono (by omega)),by omega⟩)
 have HY:=hidN hY
 have BB:Hid (W.heap.size≤w2.heap.size):=Nat.le_of_lt hz2
 have BCY:=hidN ((BC0.out.below hb2 zz).below kY (by omega))
 clear m0 m1 m2 m3 q2 hb2 hz2 hY kY sY zW
 go_upto_region 3 with fail
 rw [HY.out]
 clear HY
 obtain ⟨bm,hbm⟩:∃ b,w2.heap.size=b:=⟨_,rfl⟩
 rw [hbm] at RJ BB ⊢
 clear hbm
 have KT:Hid (∀ V,Below (w.heap.size+1+1) W V→Below w.heap.size w V):=fun V k=>KW.out.trans (k.mono (by omega))
 obtain ⟨m0,m1,m2,m3,-,-,-,-,-,zz2⟩:=BCY.out
 go_wp2_with fail
 refine (specMachineOk_any s1 s2 s3 s4 c1 c2 c3 c4 lo hi d Y (H.out.keep (Keep.of_below (KT.out _ RJ.out.k) hB)) (by have:=(KT.out _ RJ.out.k).size;omega) (MaFits.of HF.out)).mono ?_
 rintro e w7 ⟨rfl,hb7⟩
 have R7:=hidN (RJ.out.keep (by have:=ZW.out;omega) hb7)
 have BC7:=hidN (BCY.out.below hb7 (by have:=BCY.out.z;omega))
 clear m0 m1 m2 m3 zz2 hb7 RJ BCY
 cases hy:machB d with
 | false=>
  have hy':¬ (machB d=true):=by rw [hy];simp
  have E1:Hid (RS=d):=by show _=_;rw [← ES.out];unfold runMb;rw [if_neg (fun h=>hy' h.2)]
  have E2:Hid (RC=[]):=by show _=_;rw [← EC.out];unfold runMc;rw [if_neg (fun h=>hy' h.2)]
  have zb:=R7.out.bx.lt
  obtain ⟨p',s',c',e',k0,k1,k2,k3,mo,sp⟩:=R7.out.fin
  obtain ⟨-,-,-,-,a0,a1,a2,a3,fa,zz2⟩:=BC7.out
  have ne:¬ bm=w.heap.size+1:=by have:=BB.out;have:=ZW.out;omega
  have ne':¬ w.heap.size+1=bm:=fun e=>ne e.symm
  have MO:=hidN mo
  have SP:=hidN sp
  clear mo sp e'
  go_wp2
  obtain ⟨Z,hZ,g0,g1,g2,g3,fz,sz,bz⟩:=BC7.out.put (a:=.slice p'.s1 d.codes.length p'.c1) (b:=.slice p'.s2 d.cores.length p'.c2) (c:=.slice p'.s3 d.mem.length p'.c3) (d:=.slice p'.s4 d.tr.length p'.c4)
  refine bodyPost_ret (v:=.tuple #[.agg #[.slice p'.s1 d.codes.length p'.c1,.slice p'.s2 d.cores.length p'.c2,.slice p'.s3 d.mem.length p'.c3,.slice p'.s4 d.tr.length p'.c4],.slice (some ⟨w.heap.size+1+1,0,none⟩) 0 0]) ?_ rfl ?_
  ·rw [hZ]
   simp [results,Tryz.results6,go_sem,g0,g1,g2,g3]
  ·rw [hZ,E1.out,E2.out]
   exact finS (C:=[]) BC7.out (by have:=ZW.out;omega) (by omega) MO.out R7.out.n SP.out (KT.out _ R7.out.k) fz sz bz
 | true=>
  by_cases hll:4000 < l.length
  ·have hli:(4000:Int) < (l.length:Int):=by omega
   have E1:Hid (RS=d):=by show _=_;rw [← ES.out];unfold runMb;rw [if_neg (by omega)]
   have E2:Hid (RC=[]):=by show _=_;rw [← EC.out];unfold runMc;rw [if_neg (by omega)]
   have zb:=R7.out.bx.lt
   obtain ⟨p',s',c',e',k0,k1,k2,k3,mo,sp⟩:=R7.out.fin
   obtain ⟨-,-,-,-,a0,a1,a2,a3,fa,zz2⟩:=BC7.out
   have ne:¬ bm=w.heap.size+1:=by have:=BB.out;have:=ZW.out;omega
   have ne':¬ w.heap.size+1=bm:=fun e=>ne e.symm
   have MO:=hidN mo
   have SP:=hidN sp
   clear mo sp e'
   go_wp2
   obtain ⟨Z,hZ,g0,g1,g2,g3,fz,sz,bz⟩:=BC7.out.put (a:=.slice p'.s1 d.codes.length p'.c1) (b:=.slice p'.s2 d.cores.length p'.c2) (c:=.slice p'.s3 d.mem.length p'.c3) (d:=.slice p'.s4 d.tr.length p'.c4)
   refine bodyPost_ret (v:=.tuple #[.agg #[.slice p'.s1 d.codes.length p'.c1,.slice p'.s2 d.cores.length p'.c2,.slice p'.s3 d.mem.length p'.c3,.slice p'.s4 d.tr.length p'.c4],.slice (some ⟨w.heap.size+1+1,0,none⟩) 0 0]) ?_ rfl ?_
   ·rw [hZ]
    simp [results,Tryz.results6,go_sem,g0,g1,g2,g3]
   ·rw [hZ,E1.out,E2.out]
    exact finS (C:=[]) BC7.out (by have:=ZW.out;omega) (by omega) MO.out R7.out.n SP.out (KT.out _ R7.out.k) fz sz bz
  ·have hli:¬ (4000:Int) < (l.length:Int):=by omega
   have E1:Hid (RS=rnM d l):=by show _=_;rw [← ES.out];unfold runMb;rw [if_pos ⟨by omega,hy⟩]
   have E2:Hid (RC=rnC d l):=by show _=_;rw [← EC.out];unfold runMc;rw [if_pos ⟨by omega,hy⟩]
   have HYM:=hidN hy
   clear hy
   go_wp2_with fail
   go_loopw [6,8] (fun u i wr=>∃ k:Nat,k≤l.length∧i=.int .i64 k∧RnS W wr bm W.heap.size (w.heap.size+1+1) (rnM d (l.take k)) u (rnC d (l.take k))) (fun _ i _=>l.length - (intOf i).toNat)
   case atStart=>exact ⟨0,Nat.zero_le _,rfl,R7.out⟩
   case round=>
    obtain ⟨k,hk,rfl,rj⟩:=hrel
    have hoj:=rnM_ok (l.take k) HYM.out
    have hcl:(rnC d (l.take k)).length=k:=by rw [rnC_len,List.length_take];omega
    have hcm:=rnM_cores (l.take k) HYM.out
    have EA:=hidN (fun (e:k=l.length)=>(show rnM d (l.take k)=RS∧rnC d (l.take k)=RC from by rw [E1.out,E2.out,e,List.take_length];exact ⟨rfl,rfl⟩))
    by_cases hlt:k < l.length
    ·obtain ⟨⟨xw,xv⟩,ek⟩:∃ x,l[k]? =some x:=⟨_,List.getElem?_eq_getElem hlt⟩
     have ED:=hidN (rn_take (d:=d) ek)
     have XL:=hidN (HLT.out _ (List.mem_of_getElem? ek))
     have kw:=KT.out _ rj.k
     obtain ⟨g,o,es5,zg,p0,p1⟩:=H'.out.pk hB' kw ek
     subst es5
     dsimp only at ED XL p0 p1
     have zg2:g < wr.heap.size:=by have:=kw.size;omega
     have mm1:=(BC0.out.below rj.k (by omega)).m1
     have zm:w.heap.size < wr.heap.size:=by have:=kw.size;have:=rj.m;omega
     clear ek kw
     generalize rnM d (l.take k)=M at rj hoj hcm EA ED
     generalize rnC d (l.take k)=C at rj hcl EA ED
     obtain ⟨su,cu,eu⟩:=rj.n.sl
     subst eu
     have RJ:=hidN rj
     have HCL:=hidN hcl
     have HOJ:=hidN hoj
     have HCM:=hidN hcm
     have P0:=hidN p0
     have P1:=hidN p1
     have ZG:=hidN zg2
     have ZGW:=hidN zg
     have b0:(0:Int)≤(k:Int):=by omega
     have b1:(k:Int) < (l.length:Int):=by omega
     have hwn:IntKind.i64.wrap ((d.cores.length:Int) - 1)=(d.cores.length:Int) - 1:=Go.IntWalk.i64_in _ ⟨by omega,by have:=MaFits.of HF.out;have:=mach_k HYM.out;omega⟩
     clear rj hcl hoj hcm EA
     have hne:=ext_ne wr
     have u0:=Ext.fit p0 zg2
     have u1:=Ext.fit mm1 zm
     clear p0 p1 zg2 mm1 zm
     by_cases hw:0≤xw∧xw < (d.cores.length:Int)
     ·have HB1:Hid (Plain.inB xw 0 ((d.cores.length:Int) - 1)=true):=by show _=_;unfold Plain.inB;simp;omega
      go_wp2_with fail
      refine regionExt wr (by kernel_rfl) (by kernel_rfl) ?_
      repeat (go_big_quiet_step ((rename_i X;go_at_call 24;refine (l1In_is _ _ _ true _ HB1.out).mono ?_;rintro e w3 ⟨rfl,hw3⟩;exact ⟨rfl,by rw [hw3];exact X.on (Below.refl _ _)⟩)))
      refine wpQuiet_nil ?_
      rintro w3 ⟨X3,rfl⟩
      obtain ⟨U,hU⟩:∃ U,X3.w=U:=⟨_,rfl⟩
      have kU:=X3.b
      rw [hU] at kU ⊢
      have RU:=hidN (RJ.out.keep (by have:=ZW.out;omega) kU)
      have PU0:=(kU.cell (p:=⟨g,o+k * 2,none⟩) ZG.out).trans P0.out
      have PU1:=(kU.cell (p:=⟨g,o+k * 2+1,none⟩) ZG.out).trans P1.out
      have zgU:g < U.heap.size:=Nat.lt_of_lt_of_le ZG.out kU.size
      clear hne u0 u1 hU X3 kU RJ P0 P1 ZG
      obtain ⟨n,rfl⟩:∃ n:Nat,xw=(n:Int):=⟨xw.toNat,by omega⟩
      obtain ⟨kd,code,s,ha⟩:=mach_at HOJ.out (who:=n) (by have:=HCM.out;omega)
      obtain ⟨Hq,vc,vk,vm,vt,LC',LK',S',q,q0,q1,q2,q3,hbm,hqb,sp⟩:=RU.out.o
      obtain ⟨pp,gc,cc,gk,ck,gs,cs,gr,cr,gv,cv,gO,cO,st,ct,O⟩:=q.open ha
      have ek':=O.ek
      subst ek'
      have zb:=RU.out.bx.lt
      have hne:=ext_ne U
      have u0:=Ext.fit PU0 zgU
      have u1:=Ext.fit q1 zb
      have u2:=Ext.fit O.k3 O.zk
      have n0:(0:Int)≤(n:Int):=by omega
      have n1:(n:Int) < (LK'.length:Int):=by have:=O.wk;omega
      have Q:=hidN q
      have HA:=hidN ha
      have SP:=hidN sp
      have HBM:=hidN hbm
      have HQB:=hidN hqb
      have Q0:=hidN q0
      have Q1:=hidN q1
      have Q2:=hidN q2
      have Q3:=hidN q3
      have HPU0:=hidN PU0
      have HPU1:=hidN PU1
      have ZGU:=hidN zgU
      have ZB:=hidN zb
      clear q ha sp hbm hqb q0 q1 q2 q3 PU0 PU1 zgU zb O
      by_cases hst:kd.st=0
      ·go_wp2_with fail
       refine regionExt U (by kernel_rfl) (by kernel_rfl) ?_
       repeat (go_big_quiet_step (fail))
       refine wpQuiet_nil ?_
       rintro w4 ⟨X4,rfl⟩
       obtain ⟨T,hT⟩:∃ T,X4.w=T:=⟨_,rfl⟩
       have kT:=X4.b
       rw [hT] at kT ⊢
       have ST:=hidN hst
       clear hne u0 u1 u2 hT X4 hst
       go_wp2_with fail
       have T0:=(kT.cell (p:=⟨bm,0,none⟩) ZB.out).trans Q0.out
       have T1:=(kT.cell (p:=⟨bm,1,none⟩) ZB.out).trans Q1.out
       have T2:=(kT.cell (p:=⟨bm,2,none⟩) ZB.out).trans Q2.out
       have T3:=(kT.cell (p:=⟨bm,3,none⟩) ZB.out).trans Q3.out
       have PT0:=(kT.cell (p:=⟨g,o+k * 2,none⟩) ZGU.out).trans HPU0.out
       have PT1:=(kT.cell (p:=⟨g,o+k * 2+1,none⟩) ZGU.out).trans HPU1.out
       have zT:=kT.size
       have zbT:bm < T.heap.size:=by have:=ZB.out;omega
       have zgT:g < T.heap.size:=by have:=ZGU.out;omega
       have RT:=hidN (RU.out.keep (by have:=ZW.out;omega) kT)
       have QT:=hidN (Q.out.keep (w':=T) (fun b _ h1=>kT.block b h1) kT.size)
       have nB:¬ Hq bm:=HBM.out
       have nG:¬ Hq g:=fun h=>by have:=HQB.out g h;have:=ZGW.out;have:=ZW.out;omega
       have hne:=extP_ne T Hq
       have u0:=ExtP.fit (E:=Hq) T0 zbT nB
       have u1:=ExtP.fit (E:=Hq) T1 zbT nB
       have u2:=ExtP.fit (E:=Hq) T2 zbT nB
       have u3:=ExtP.fit (E:=Hq) T3 zbT nB
       have u4:=ExtP.fit (E:=Hq) PT0 zgT nG
       have u5:=ExtP.fit (E:=Hq) PT1 zgT nG
       have HT0:=hidN T0
       have HT1:=hidN T1
       have HT2:=hidN T2
       have HT3:=hidN T3
       have ZBT:=hidN zbT
       clear T0 T1 T2 T3 PT0 PT1 zT zbT zgT kT Q0 Q1 Q2 Q3 HPU0 HPU1 ZGU ZB RU Q
       refine regionMix T (CP T Hq) 5 9 (by kernel_rfl) (by kernel_rfl) (fun _ _ d _ _ h=>by cases d<;>exact h) (CP.drew _ _) ?_
       unfold CP
       dsimp only [List.take,List.drop]
       repeat (go_big_quiet_step (fail))
       refine wpQuiet_nil ?_
       clear hne u0 u1 u2 u3 u4 u5 nB nG
       obtain ⟨V,hV⟩:∃ V,T.drew=V:=⟨_,rfl⟩
       have kV:Below T.heap.size T V:=by subst hV;exact Below.drew (Below.refl _ _)
       rw [hV]
       have RV:=hidN (RT.out.keep (by have:=ZW.out;omega) kV)
       have LS0:=l8Step_any W.heap.size vc (.slice (some ⟨gk,0,none⟩) LK'.length ck) vm vt LC' LK' S' M n kd code s xv V (QT.out.keep (w':=V) (fun b _ h1=>kV.block b h1) kV.size) HA.out RV.out.m XL.out ST.out
       obtain ⟨XX,hXX⟩:∃ X,stepM M n xv=X:=⟨_,rfl⟩
       have OK9:=hidN (stepM_ok (n:Int) xv HOJ.out)
       rw [hXX] at LS0 ED OK9
       have LS:=hidN LS0
       have V0:=hidN ((kV.cell (p:=⟨bm,0,none⟩) ZBT.out).trans HT0.out)
       have V1:=hidN ((kV.cell (p:=⟨bm,1,none⟩) ZBT.out).trans HT1.out)
       have V2:=hidN ((kV.cell (p:=⟨bm,2,none⟩) ZBT.out).trans HT2.out)
       have V3:=hidN ((kV.cell (p:=⟨bm,3,none⟩) ZBT.out).trans HT3.out)
       clear hV kV LS0 hXX HT0 HT1 HT2 HT3 ZBT RT QT HA ST HOJ
       unfold wpListC
       go_wp2_with (go_at_call 25;refine Calls.mono LS.out ?_;rintro e w9 ⟨⟨vc',vk',vm',vt',LC9,LK9,S9,rfl,q9,b9⟩,f9⟩;obtain ⟨p9,rfl,rfl,rfl,rfl,-⟩:=q9.mo;have eb:=f9 bm HBM.out;have e0:=(World.cell?_of_block eb).trans V0.out;have e1:=(World.cell?_of_block eb).trans V1.out;have e2:=(World.cell?_of_block eb).trans V2.out;have e3:=(World.cell?_of_block eb).trans V3.out;have ff:∀ j,w9.frozen? ⟨bm,j,none⟩=false:=fun j=>(World.frozen?_of_block eb).trans (RV.out.fm j);have zb9:bm < w9.heap.size:=(RV.out.bx.same eb).lt;have RZ:=hidN (RV.out.put (by have:=ZW.out;omega) BB.out SP.out e0 e1 e2 e3 HBM.out HQB.out q9 b9 f9))
       refine And.intro (fun _ hc=>CP.on hc b9.os b9.tape b9.output b9.size (fun b _ h2=>f9 b h2)) ?_
       clear eb q9 b9 f9 LS
       unfold wpListC
       go_wp2
       refine And.intro (fun _ hc=>hc) ?_
       unfold wpListC
       go_wp2
       refine And.intro (fun _ hc=>hc) ?_
       unfold wpListC
       go_wp2
       refine And.intro (fun _ hc=>hc) ?_
       refine listC_late _ _ _ _ (by decide) ?_
       go_upto_region 13 with fail
       obtain ⟨Z,hZ⟩:∃ Z,((((w9.setCell ⟨bm,0,none⟩ (.slice p9.s1 XX.1.codes.length p9.c1)).setCell ⟨bm,1,none⟩ (.slice p9.s2 XX.1.cores.length p9.c2)).setCell ⟨bm,2,none⟩ (.slice p9.s3 XX.1.mem.length p9.c3)).setCell ⟨bm,3,none⟩ (.slice p9.s4 XX.1.tr.length p9.c4))=Z:=⟨_,rfl⟩
       rw [hZ] at RZ ⊢
       clear hZ e0 e1 e2 e3 ff zb9 RV V0 V1 V2 V3
       go_wp2_with (at_builtin;refine app_one rfl _ _ rfl Z XX.2 (w.heap.size+1+1) (.slice su C.length cu) C rfl RZ.out.n rfl (by have:=HCL.out;omega) (by have:=RZ.out.m;have:=ZW.out;omega) ?_;intro g5 cap5 w5' ho5 hb5 hf5;have RA:=hidN (RZ.out.app OK9.out ho5 hb5 hf5);clear ho5 hb5 hf5)
       go_roundw
       case rel=>exact ⟨k+1,by omega,by go_num,by rw [ED.out.1,ED.out.2];exact RA.out⟩
       case measure=>simp [intOf];omega
      ·go_wp2_with fail
       refine regionExt U (by kernel_rfl) (by kernel_rfl) ?_
       repeat (go_big_quiet_step (fail))
       refine wpQuiet_nil ?_
       rintro w4 ⟨X4,rfl⟩
       obtain ⟨T,hT⟩:∃ T,X4.w=T:=⟨_,rfl⟩
       have kT:=X4.b
       rw [hT] at kT ⊢
       have RT:=hidN (RU.out.keep (by have:=ZW.out;omega) kT)
       rw [stepM_over HA.out xv hst] at ED
       clear hne u0 u1 u2 hT X4 kT RU n0 n1
       go_wp2_with (at_builtin;refine app_one rfl _ _ rfl T 3 (w.heap.size+1+1) (.slice su C.length cu) C rfl RT.out.n rfl (by have:=HCL.out;omega) (by have:=RT.out.m;have:=ZW.out;omega) ?_;intro g5 cap5 w5' ho5 hb5 hf5;have RA:=hidN (RT.out.app HOJ.out ho5 hb5 hf5);clear ho5 hb5 hf5)
       go_roundw
       case rel=>exact ⟨k+1,by omega,by go_num,by rw [ED.out.1,ED.out.2];exact RA.out⟩
       case measure=>simp [intOf];omega
     ·have HB1:Hid (Plain.inB xw 0 ((d.cores.length:Int) - 1)=false):=by show _=_;unfold Plain.inB;simp;omega
      go_wp2_with fail
      refine regionExt wr (by kernel_rfl) (by kernel_rfl) ?_
      repeat (go_big_quiet_step ((rename_i X;go_at_call 24;refine (l1In_is _ _ _ false _ HB1.out).mono ?_;rintro e w3 ⟨rfl,hw3⟩;exact ⟨rfl,by rw [hw3];exact X.on (Below.refl _ _)⟩)))
      refine wpQuiet_nil ?_
      rintro w3 ⟨X3,rfl⟩
      obtain ⟨U,hU⟩:∃ U,X3.w=U:=⟨_,rfl⟩
      have kU:=X3.b
      rw [hU] at kU ⊢
      have RU:=hidN (RJ.out.keep (by have:=ZW.out;omega) kU)
      rw [stepM_none (d:=M) xv (by rw [HCM.out];exact hw)] at ED
      clear hne u0 u1 hU X3 kU RJ P0 P1 ZG hw
      go_wp2_with (at_builtin;refine app_one rfl _ _ rfl U 2 (w.heap.size+1+1) (.slice su C.length cu) C rfl RU.out.n rfl (by have:=HCL.out;omega) (by have:=RU.out.m;have:=ZW.out;omega) ?_;intro g5 cap5 w5' ho5 hb5 hf5;have RA:=hidN (RU.out.app HOJ.out ho5 hb5 hf5);clear ho5 hb5 hf5)
      go_roundw
      case rel=>exact ⟨k+1,by omega,by go_num,by rw [ED.out.1,ED.out.2];exact RA.out⟩
      case measure=>simp [intOf];omega
    ·have ek:k=l.length:=by omega
     obtain ⟨e1',e2'⟩:=EA.out ek
     rw [e1',e2'] at rj
     clear e1' e2' hoj hcl hcm EA
     have zb:=rj.bx.lt
     have RK:=hidN rj
     obtain ⟨p',s',c',e',k0,k1,k2,k3,mo,sp⟩:=rj.fin
     subst e'
     have MO:=hidN mo
     have SP:=hidN sp
     have ON:=hidN rj.n
     have BCR:=hidN (BC0.out.below rj.k (by omega))
     obtain ⟨-,-,-,-,a0,a1,a2,a3,fa,zz2⟩:=BCR.out
     have ne:¬ bm=w.heap.size+1:=by have:=BB.out;have:=ZW.out;omega
     have ne':¬ w.heap.size+1=bm:=fun e=>ne e.symm
     have b1:¬ (k:Int) < (l.length:Int):=by omega
     clear mo sp rj hlt ek
     go_wp2
     obtain ⟨Z,hZ,g0,g1,g2,g3,fz,sz,bz⟩:=BCR.out.put (a:=.slice p'.s1 RS.codes.length p'.c1) (b:=.slice p'.s2 RS.cores.length p'.c2) (c:=.slice p'.s3 RS.mem.length p'.c3) (d:=.slice p'.s4 RS.tr.length p'.c4)
     refine bodyPost_ret (v:=.tuple #[.agg #[.slice p'.s1 RS.codes.length p'.c1,.slice p'.s2 RS.cores.length p'.c2,.slice p'.s3 RS.mem.length p'.c3,.slice p'.s4 RS.tr.length p'.c4],.slice s' RC.length c']) ?_ rfl ?_
     ·rw [hZ]
      simp [results,Tryz.results6,go_sem,g0,g1,g2,g3]
     ·rw [hZ]
      exact finS BCR.out (by have:=ZW.out;omega) (by omega) MO.out ON.out SP.out (KT.out _ RK.out.k) fz sz bz
end Go.Proofs.YtepfpbcjklaenaaGreat
