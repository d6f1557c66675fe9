/- MachineRun of the specification, whatever the machine and the picks. Conditions: the machine is of at most 2^20 cells, late is a number of 64 bits. A machine that l8DrawRight draws: its codes are right, so it is one; it has run a while. Conditions: the cursor and its bytes lie in memory as the reading says. DrawMachineNew: rows of code are drawn into new memory. Conditions: the bytes lie in memory as the reading says. What l8Draw goes by: a machine in its box ahead of the spoiling, and behind it. No condition. l8Draw's machine with a first code cut off, or a note more. No condition. -/
import Derived.Test.YtlbeploopclegaaGreatQG00
import Derived.Test.YtlbeploopclegaaGreatQG01
import Derived.Test.YtlbeploopclegaaGreatQG02
import Derived.Test.YtlbeploopclegaaGreatQG12
import Derived.Test.YtlbeploopclegaaGreatQG13
import Derived.Test.YtlbeploopclegaaGreatQG10
import Derived.Test.YtlbeploopclegaaGreatQKOkB
import Derived.Test.YtlbeploopclegaaGreatQG04
import Derived.Test.YtlbeploopclegaaGreatQC7SpA
import Derived.Test.YtlbeploopclegaaGreatQG18
import Derived.Test.YtlbeploopclegaaGreatQG19
import Derived.Test.YtlbeploopclegaaGreatQG23
import Derived.Test.YtlbeploopclegaaGreatQKDupS
import Derived.Test.YtlbeploopclegaaGreatQKOkS
import Derived.Test.YtlbeploopclegaaGreatQG20
import Derived.Test.YtlbeploopclegaaGreatQG21
import Derived.Test.YtlbeploopclegaaGreatQG07
import Derived.Deep.RegionHeld3
import Derived.Deep.DeepCutAuto
import Derived.Test.YtlbeploopclegaaGreatQG11
namespace Go.Proofs.YtlbeploopclegaaGreat
section
set_option linter.unusedSimpArgs false
set_option linter.unusedVariables false
set_option maxRecDepth 100000
open Go.RowKit
/- a machine in its box that is put there anew, a row of codes beside it -/
structure RnS (w V:World) (bm B Bc:Nat) (d:MD) (u:Value) (C:List Int):Prop where
 o:∃ (Hq:Nat→Prop) (vc vk vm vt:Value) (LC:List CV) (LK:List KV) (S:List RS),MQ V B Hq vc vk vm vt LC LK S d∧V.cell? ⟨bm,0,none⟩=some vc∧V.cell? ⟨bm,1,none⟩=some vk∧V.cell? ⟨bm,2,none⟩=some vm∧V.cell? ⟨bm,3,none⟩=some vt∧¬ Hq bm∧(∀ q,Hq q→B≤q)∧∀ q,u.ownBlock=some q→¬ Hq q
 fm:∀ j,V.frozen? ⟨bm,j,none⟩=false
 bx:BxT V bm
 n:OwnN V Bc u C
 k:Below Bc w V
 m:B≤V.heap.size
theorem RnS.keep {w V V':World} {bm B Bc:Nat} {d:MD} {u:Value} {C:List Int} (h:RnS w V bm B Bc d u C) (hBc:Bc≤B) (k:Below V.heap.size V V'):RnS w V' bm B Bc d u C:=by
 obtain ⟨Hq,vc,vk,vm,vt,LC,LK,S,q,c0,c1,c2,c3,hb,hB,sp⟩:=h.o
 have z:=h.bx.lt
 have m:=h.m
 exact ⟨⟨Hq,vc,vk,vm,vt,LC,LK,S,q.keep (fun b _ h1=>k.block b h1) k.size,(k.cell (p:=⟨bm,0,none⟩) z).trans c0,(k.cell (p:=⟨bm,1,none⟩) z).trans c1,(k.cell (p:=⟨bm,2,none⟩) z).trans c2,(k.cell (p:=⟨bm,3,none⟩) z).trans c3,hb,hB,sp⟩,fun j=>(k.frozen (p:=⟨bm,j,none⟩) z).trans (h.fm j),h.bx.same (k.block bm z),h.n.keep (fun b _ h1=>k.block b h1),h.k.trans (k.mono (by omega)),Nat.le_trans h.m k.size⟩
/- one code more -/
theorem RnS.app {w V V':World} {bm B Bc g cap n:Nat} {d:MD} {u:Value} {C C':List Int} (h:RnS w V bm B Bc d u C) (hd:machB d=true) (hn:OwnN V' Bc (.slice (some ⟨g,0,none⟩) n cap) C') (kk:Below Bc V V') (f:∀ k,k < V.heap.size→u.ownBlock≠some k→V'.heap[k]? =V.heap[k]? ∧k≠g):RnS w V' bm B Bc d (.slice (some ⟨g,0,none⟩) n cap) C':=by
 obtain ⟨Hq,vc,vk,vm,vt,LC,LK,S,q,c0,c1,c2,c3,hb,hB,sp⟩:=h.o
 have z:=h.bx.lt
 have eb:=(f bm z (own_bx h.n intNM h.bx)).1
 have hm:=mach_mem hd
 have ks:=kk.size
 refine ⟨⟨_,vc,vk,vm,vt,LC,LK,S,q.hop hm (fun k hk hq=>(f k hk (fun e=>sp k e hq)).1) kk.size,(World.cell?_of_block eb).trans c0,(World.cell?_of_block eb).trans c1,(World.cell?_of_block eb).trans c2,(World.cell?_of_block eb).trans c3,fun hh=>hh.elim (fun hh=>hb hh.2) (fun hh=>by omega),fun q hh=>hh.elim (fun hh=>hB q hh.2) (fun hh=>by have:=h.m;omega),fun b e hh=>?_⟩,fun j=>(World.frozen?_of_block eb).trans (h.fm j),h.bx.same eb,hn,h.k.trans kk,Nat.le_trans h.m kk.size⟩
 have hg:b < V'.heap.size:=(World.ownsRow.lt hn b e).2
 simp only [Value.ownBlock,Option.some.injEq] at e
 subst e
 rcases hh with ⟨h1,h2⟩ | h1
 ·by_cases hu:u.ownBlock=some g
  ·exact sp g hu h2
  ·exact (f g h1 hu).2 rfl
 ·omega
/- another machine put into the box -/
theorem RnS.put {w V V':World} {bm B Bc:Nat} {Hq:Nat→Prop} {d d':MD} {u vc vk vm vt vc' vk' vm' vt':Value} {C:List Int} {LC':List CV} {LK':List KV} {S':List RS} (h:RnS w V bm B Bc d u C) (hBc:Bc≤B) (hBm:B≤bm) (sp:∀ q,u.ownBlock=some q→¬ Hq q) (e0:V'.cell? ⟨bm,0,none⟩=some vc) (e1:V'.cell? ⟨bm,1,none⟩=some vk) (e2:V'.cell? ⟨bm,2,none⟩=some vm) (e3:V'.cell? ⟨bm,3,none⟩=some vt) (hb:¬ Hq bm) (hB:∀ q,Hq q→B≤q) (q':MQ V' B Hq vc' vk' vm' vt' LC' LK' S' d') (b':Below B V V') (fr:∀ b,¬ Hq b→V'.heap[b]? =V.heap[b]?):RnS w ((((V'.setCell ⟨bm,0,none⟩ vc').setCell ⟨bm,1,none⟩ vk').setCell ⟨bm,2,none⟩ vm').setCell ⟨bm,3,none⟩ vt') bm B Bc d' u C:=by
 have bx:=h.bx.same (fr bm hb)
 have nb:=own_bx h.n intNM h.bx
 have far:∀ k,k≠bm→((((V'.setCell ⟨bm,0,none⟩ vc').setCell ⟨bm,1,none⟩ vk').setCell ⟨bm,2,none⟩ vm').setCell ⟨bm,3,none⟩ vt').heap[k]? =V'.heap[k]? :=fun k hk=>(Below.heap_setCell _ ⟨bm,_,none⟩ _ k hk).trans ((Below.heap_setCell _ ⟨bm,_,none⟩ _ k hk).trans ((Below.heap_setCell _ ⟨bm,_,none⟩ _ k hk).trans (Below.heap_setCell _ ⟨bm,_,none⟩ _ k hk)))
 have bs:=bx.set (g:=bm) (o:=0) (v:=vc')
 have m:=h.m
 refine ⟨⟨Hq,vc',vk',vm',vt',LC',LK',S',MQ.offB (MQ.offB (MQ.offB (MQ.offB q' bx) bx.set) bx.set.set) bx.set.set.set,?_,?_,?_,?_,hb,hB,sp⟩,fun j=>?_,bx.set.set.set.set,ownKeep' h.n (fun k e=>(far k (fun e2=>nb (by rw [e,e2]))).trans (fr k (sp k e))),h.k.trans (((((b'.setCell (p:=⟨bm,0,none⟩) hBm _).setCell (p:=⟨bm,1,none⟩) hBm _).setCell (p:=⟨bm,2,none⟩) hBm _).setCell (p:=⟨bm,3,none⟩) hBm _).mono hBc),by have:=b'.size;simp;omega⟩
 ·simp [go_sem,e0,e1,e2,e3]
 ·simp [go_sem,e0,e1,e2,e3]
 ·simp [go_sem,e0,e1,e2,e3]
 ·simp [go_sem,e0,e1,e2,e3]
 ·rw [World.frozen?_setCell,World.frozen?_setCell,World.frozen?_setCell,World.frozen?_setCell]
  exact (World.frozen?_of_block (fr bm hb)).trans (h.fm j)
/- what it answers, and that all its rows are owned whole -/
def RunQ9 (w:World) (D:MD) (C:List Int) (e:Ending) (w':World):Prop:=∃ (p:MP) (s:Option Addr) (c:Nat),e=.returned (.tuple #[.agg #[.slice p.s1 D.codes.length p.c1,.slice p.s2 D.cores.length p.c2,.slice p.s3 D.mem.length p.c3,.slice p.s4 D.tr.length p.c4],.slice s C.length c])∧MaO w' w.heap.size w'.heap.size p D∧OwnN w' w.heap.size (.slice s C.length c) C∧(∀ q,(Value.slice s C.length c).ownBlock=some q→∀ a∈p.as D,a.block≠q)∧Below w.heap.size w w'∧∃ LC LK S,MQ0 w' w.heap.size (.slice p.s1 D.codes.length p.c1) (.slice p.s2 D.cores.length p.c2) (.slice p.s3 D.mem.length p.c3) (.slice p.s4 D.tr.length p.c4) LC LK S D
theorem RnS.fin {w V:World} {bm B Bc:Nat} {d:MD} {u:Value} {C:List Int} (h:RnS w V bm B Bc d u C):∃ (p:MP) (s:Option Addr) (c:Nat),u=.slice s C.length c∧V.cell? ⟨bm,0,none⟩=some (.slice p.s1 d.codes.length p.c1)∧V.cell? ⟨bm,1,none⟩=some (.slice p.s2 d.cores.length p.c2)∧V.cell? ⟨bm,2,none⟩=some (.slice p.s3 d.mem.length p.c3)∧V.cell? ⟨bm,3,none⟩=some (.slice p.s4 d.tr.length p.c4)∧MaO V B V.heap.size p d∧(∀ q,u.ownBlock=some q→∀ a∈p.as d,a.block≠q)∧∃ LC LK S,MQ0 V B (.slice p.s1 d.codes.length p.c1) (.slice p.s2 d.cores.length p.c2) (.slice p.s3 d.mem.length p.c3) (.slice p.s4 d.tr.length p.c4) LC LK S d:=by
 obtain ⟨Hq,vc,vk,vm,vt,LC,LK,S,q,c0,c1,c2,c3,-,-,sp⟩:=h.o
 obtain ⟨p,e1,e2,e3,e4,mo,hp⟩:=q.mo
 subst e1 e2 e3 e4
 obtain ⟨s,c,e⟩:=h.n.sl
 exact ⟨p,s,c,e,c0,c1,c2,c3,mo,fun q' e a ha e2=>sp q' e (e2▸hp Hq q.hh a ha),LC,LK,S,q.toMQ0⟩
theorem finS {w V Z : World} {B Bc : Nat} {m0 m1 m2 m3 : Value} {p : MP} {D : MD} {C : List Int} {s : Option Addr} {c : Nat} (hb : Bc2 V w.heap.size m0 m1 m2 m3) (hB : w.heap.size + 1 < B) (hBc : w.heap.size + 1 < Bc) (mo : MaO V B V.heap.size p D) (hn : OwnN V Bc (.slice s C.length c) C) (sp : (∀ q, (Value.slice s C.length c).ownBlock = some q → ∀ a ∈ p.as D, a.block ≠ q) ∧ ∃ LC LK S, MQ0 V B (.slice p.s1 D.codes.length p.c1) (.slice p.s2 D.cores.length p.c2) (.slice p.s3 D.mem.length p.c3) (.slice p.s4 D.tr.length p.c4) LC LK S D) (hk : Below w.heap.size w V) (fz : ∀ q, q ≠ w.heap.size + 1 → Z.heap[q]? = V.heap[q]?) (sz : Z.heap.size = V.heap.size) (bz : ∀ (B : Nat) (A : World), Below B A V → B ≤ w.heap.size + 1 → Below B A Z) :
  RunQ9 w D C (.returned (.tuple #[.agg #[.slice p.s1 D.codes.length p.c1,.slice p.s2 D.cores.length p.c2,.slice p.s3 D.mem.length p.c3,.slice p.s4 D.tr.length p.c4],.slice s C.length c])) Z:=
 ⟨p,s,c,rfl,(mo.keep (fun k h1 _=>fz k (by omega))).mono (by omega) (by omega),ownLow' (ownKeep' hn (fun k e=>fz k (by have:=(World.ownsRow.lt hn k e).1;omega))) (by omega),sp.1,bz _ _ hk (by omega),by
  obtain ⟨LC,LK,S,mq⟩:=sp.2
  exact ⟨LC,LK,S,(mq.keep (fun k h1 _=>fz k (by omega)) (by omega)).low (by omega)⟩⟩
theorem rnM_codes:∀ (l:List ND) {d:MD},machB d=true→(rnM d l).codes=d.codes
 | [],_,_=>rfl
 | x::r,d,h=>(rnM_codes r (stepM_ok x.who x.v h)).trans (stepM_sz x.who x.v h).1
theorem rnM_cores {d:MD} (l:List ND) (h:machB d=true):(rnM d l).cores.length=d.cores.length:=by
 rw [mach_len (rnM_ok l h),rnM_codes l h,mach_len h]
set_option maxRecDepth 100000 in
set_option maxHeartbeats 8000000 in
theorem specMRun_full (s1 s2 s3 s4 s5 : Option Addr) (c1 c2 c3 c4 c5 lo hi lo' hi' : Nat) (d : MD) (l : List ND) (w : World) (h : MaR w lo hi s1 s2 s3 s4 d) (h' : NtsR w lo' hi' s5 l) (hB : hi ≤ w.heap.size) (hB' : hi' ≤ w.heap.size) (hf : MaSz d ≤ 1048576) (hl : l.length ≤ 1048576) (hlate : ∀ x ∈ l, x.v ≤ 9223372036854775807) :
  Calls Tryz.prog 108 #[.agg #[.slice s1 d.codes.length c1,.slice s2 d.cores.length c2,.slice s3 d.mem.length c3,.slice s4 d.tr.length c4],.slice s5 l.length c5] w (RunQ9 w (runMb d l) (runMc d l)):=by
 obtain ⟨W0,hW0⟩:∃ W,(w.alloc (.cells #[.slice s1 d.codes.length c1,.slice s2 d.cores.length c2,.slice s3 d.mem.length c3,.slice s4 d.tr.length c4] 38)).alloc (.cells #[.slice none 0 0,.slice none 0 0,.slice none 0 0,.slice none 0 0] 38)=W:=⟨_,rfl⟩
 obtain ⟨bc,kW0⟩:=bc2_new hW0
 have zW0:W0.heap.size=w.heap.size+1+1:=by subst hW0;simp
 obtain ⟨W,hW⟩:∃ W,W0.alloc (.cells #[] 3)=W:=⟨_,rfl⟩
 have kW1:Below W0.heap.size W0 W:=by subst hW;exact (Below.refl _ _).alloc (Nat.le_refl _) _
 have zW:W.heap.size=w.heap.size+1+1+1:=by subst hW;simp [zW0]
 have hE:OwnN W (w.heap.size+1+1) (.slice (some ⟨w.heap.size+1+1,0,none⟩) 0 0) []:=by
  have q:=ownN_empty (w:=W0) (base:=w.heap.size+1+1) (by omega)
  rw [hW,zW0] at q
  exact q
 have HW:=hidN hW
 have HW0:=hidN hW0
 have H:=hidN h
 have H':=hidN h'
 have HF:=hidN hf
 have HLT:=hidN hlate
 have HE:=hidN hE
 have BC0:=hidN (bc.below kW1 (by omega))
 have KW:=hidN (kW0.trans (kW1.mono (by omega)))
 obtain ⟨RS,hRS⟩:∃ R,runMb d l=R:=⟨_,rfl⟩
 obtain ⟨RC,hRC⟩:∃ R,runMc d l=R:=⟨_,rfl⟩
 have ES:=hidN hRS
 have EC:=hidN hRC
 rw [hRS,hRC]
 have ZW0:=hidN zW0
 have ZW:=hidN zW
 have zl:w.heap.size < W.heap.size:=by omega
 obtain ⟨m0,m1,m2,m3,-,-,-,-,-,zz⟩:=BC0.out
 clear hRS hRC hW hW0 kW0 kW1 bc h h' hf hlate hE zW0 zW
 go_enter Tryz.func108,Tryz.ntmps108
 go_upto_region 2 with fail
 rw [HW0.out]
 rw [HW.out]
 go_wp2_with fail
 refine (l8Copy_any s1 s2 s3 s4 c1 c2 c3 c4 lo hi d W (H.out.keep (Keep.of_below KW.out hB)) (by omega) HF.out).mono ?_
 rintro e w2 ⟨vc,vk,vm,vt,LC,LK,S,rfl,q2,hb2,hz2⟩
 obtain ⟨p,rfl,rfl,rfl,rfl,-⟩:=q2.mo
 obtain ⟨Y,hY⟩:∃ Y,w2.alloc (.cells #[.slice p.s1 d.codes.length p.c1,.slice p.s2 d.cores.length p.c2,.slice p.s3 d.mem.length p.c3,.slice p.s4 d.tr.length p.c4] 38)=Y:=⟨_,rfl⟩
 have kY:Below w2.heap.size w2 Y:=by subst hY;exact (Below.refl _ _).alloc (Nat.le_refl _) _
 have sY:w2.heap.size < Y.heap.size:=by subst hY;simp
 have zW:=ZW.out
 have RJ:=hidN (show RnS W Y w2.heap.size W.heap.size (w.heap.size+1+1) d (.slice (some ⟨w.heap.size+1+1,0,none⟩) 0 0) [] from
  ⟨⟨_,_,_,_,_,LC,LK,S,(q2.toH (Nat.le_of_lt hz2)).re (w':=Y) (fun b _ h1=>kY.block b h1) kY.size,by subst hY;simp [go_sem],by subst hY;simp [go_sem],by subst hY;simp [go_sem],by subst hY;simp [go_sem],fun h=>h.elim (fun h=>by omega) (fun h=>by omega),fun q h=>h.elim (fun h=>h.2) (fun h=>by omega),fun q e h=>by
   simp only [Value.ownBlock,Option.some.injEq] at e
   subst e
   exact h.elim (fun h=>by have:=h.2;omega) (fun h=>by omega)⟩,by subst hY;intro j;simp [go_sem],by subst hY;exact BxT.new _ _,HE.out.keep (fun b _ h1=>(kY.block b (by omega)).trans (hb2.block b h1)),(hb2.mono (by omega)).trans (kY.mono (by omega)),by omega⟩)
 have HY:=hidN hY
 have BB:Hid (W.heap.size≤w2.heap.size):=Nat.le_of_lt hz2
 have BCY:=hidN ((BC0.out.below hb2 zz).below kY (by omega))
 clear m0 m1 m2 m3 q2 hb2 hz2 hY kY sY zW
 go_upto_region 3 with fail
 rw [HY.out]
 clear HY
 obtain ⟨bm,hbm⟩:∃ b,w2.heap.size=b:=⟨_,rfl⟩
 rw [hbm] at RJ BB ⊢
 clear hbm
 have KT:Hid (∀ V,Below (w.heap.size+1+1) W V→Below w.heap.size w V):=fun V k=>KW.out.trans (k.mono (by omega))
 obtain ⟨m0,m1,m2,m3,-,-,-,-,-,zz2⟩:=BCY.out
 go_wp2_with fail
 refine (specMachineOk_any s1 s2 s3 s4 c1 c2 c3 c4 lo hi d Y (H.out.keep (Keep.of_below (KT.out _ RJ.out.k) hB)) (by have:=(KT.out _ RJ.out.k).size;omega) (MaFits.of HF.out)).mono ?_
 rintro e w7 ⟨rfl,hb7⟩
 have R7:=hidN (RJ.out.keep (by have:=ZW.out;omega) hb7)
 have BC7:=hidN (BCY.out.below hb7 (by have:=BCY.out.z;omega))
 clear m0 m1 m2 m3 zz2 hb7 RJ BCY
 cases hy:machB d with
 | false=>
  have hy':¬ (machB d=true):=by rw [hy];simp
  have E1:Hid (RS=d):=by show _=_;rw [← ES.out];unfold runMb;rw [if_neg (fun h=>hy' h.2)]
  have E2:Hid (RC=[]):=by show _=_;rw [← EC.out];unfold runMc;rw [if_neg (fun h=>hy' h.2)]
  have zb:=R7.out.bx.lt
  obtain ⟨p',s',c',e',k0,k1,k2,k3,mo,sp⟩:=R7.out.fin
  obtain ⟨-,-,-,-,a0,a1,a2,a3,fa,zz2⟩:=BC7.out
  have ne:¬ bm=w.heap.size+1:=by have:=BB.out;have:=ZW.out;omega
  have ne':¬ w.heap.size+1=bm:=fun e=>ne e.symm
  have MO:=hidN mo
  have SP:=hidN sp
  clear mo sp e'
  go_wp2
  obtain ⟨Z,hZ,g0,g1,g2,g3,fz,sz,bz⟩:=BC7.out.put (a:=.slice p'.s1 d.codes.length p'.c1) (b:=.slice p'.s2 d.cores.length p'.c2) (c:=.slice p'.s3 d.mem.length p'.c3) (d:=.slice p'.s4 d.tr.length p'.c4)
  refine bodyPost_ret (v:=.tuple #[.agg #[.slice p'.s1 d.codes.length p'.c1,.slice p'.s2 d.cores.length p'.c2,.slice p'.s3 d.mem.length p'.c3,.slice p'.s4 d.tr.length p'.c4],.slice (some ⟨w.heap.size+1+1,0,none⟩) 0 0]) ?_ rfl ?_
  ·rw [hZ]
   simp [results,Tryz.results108,go_sem,g0,g1,g2,g3]
  ·rw [hZ,E1.out,E2.out]
   exact finS (C:=[]) BC7.out (by have:=ZW.out;omega) (by omega) MO.out R7.out.n SP.out (KT.out _ R7.out.k) fz sz bz
 | true=>
  by_cases hll:4000 < l.length
  ·have hli:(4000:Int) < (l.length:Int):=by omega
   have E1:Hid (RS=d):=by show _=_;rw [← ES.out];unfold runMb;rw [if_neg (by omega)]
   have E2:Hid (RC=[]):=by show _=_;rw [← EC.out];unfold runMc;rw [if_neg (by omega)]
   have zb:=R7.out.bx.lt
   obtain ⟨p',s',c',e',k0,k1,k2,k3,mo,sp⟩:=R7.out.fin
   obtain ⟨-,-,-,-,a0,a1,a2,a3,fa,zz2⟩:=BC7.out
   have ne:¬ bm=w.heap.size+1:=by have:=BB.out;have:=ZW.out;omega
   have ne':¬ w.heap.size+1=bm:=fun e=>ne e.symm
   have MO:=hidN mo
   have SP:=hidN sp
   clear mo sp e'
   go_wp2
   obtain ⟨Z,hZ,g0,g1,g2,g3,fz,sz,bz⟩:=BC7.out.put (a:=.slice p'.s1 d.codes.length p'.c1) (b:=.slice p'.s2 d.cores.length p'.c2) (c:=.slice p'.s3 d.mem.length p'.c3) (d:=.slice p'.s4 d.tr.length p'.c4)
   refine bodyPost_ret (v:=.tuple #[.agg #[.slice p'.s1 d.codes.length p'.c1,.slice p'.s2 d.cores.length p'.c2,.slice p'.s3 d.mem.length p'.c3,.slice p'.s4 d.tr.length p'.c4],.slice (some ⟨w.heap.size+1+1,0,none⟩) 0 0]) ?_ rfl ?_
   ·rw [hZ]
    simp [results,Tryz.results108,go_sem,g0,g1,g2,g3]
   ·rw [hZ,E1.out,E2.out]
    exact finS (C:=[]) BC7.out (by have:=ZW.out;omega) (by omega) MO.out R7.out.n SP.out (KT.out _ R7.out.k) fz sz bz
  ·have hli:¬ (4000:Int) < (l.length:Int):=by omega
   have E1:Hid (RS=rnM d l):=by show _=_;rw [← ES.out];unfold runMb;rw [if_pos ⟨by omega,hy⟩]
   have E2:Hid (RC=rnC d l):=by show _=_;rw [← EC.out];unfold runMc;rw [if_pos ⟨by omega,hy⟩]
   have HYM:=hidN hy
   clear hy
   go_wp2_with fail
   go_loopw [6,8] (fun u i wr=>∃ k:Nat,k≤l.length∧i=.int .i64 k∧RnS W wr bm W.heap.size (w.heap.size+1+1) (rnM d (l.take k)) u (rnC d (l.take k))) (fun _ i _=>l.length - (intOf i).toNat)
   case atStart=>exact ⟨0,Nat.zero_le _,rfl,R7.out⟩
   case round=>
    obtain ⟨k,hk,rfl,rj⟩:=hrel
    have hoj:=rnM_ok (l.take k) HYM.out
    have hcl:(rnC d (l.take k)).length=k:=by rw [rnC_len,List.length_take];omega
    have hcm:=rnM_cores (l.take k) HYM.out
    have EA:=hidN (fun (e:k=l.length)=>(show rnM d (l.take k)=RS∧rnC d (l.take k)=RC from by rw [E1.out,E2.out,e,List.take_length];exact ⟨rfl,rfl⟩))
    by_cases hlt:k < l.length
    ·obtain ⟨⟨xw,xv⟩,ek⟩:∃ x,l[k]? =some x:=⟨_,List.getElem?_eq_getElem hlt⟩
     have ED:=hidN (rn_take (d:=d) ek)
     have XL:=hidN (HLT.out _ (List.mem_of_getElem? ek))
     have kw:=KT.out _ rj.k
     obtain ⟨g,o,es5,zg,p0,p1⟩:=H'.out.pk hB' kw ek
     subst es5
     dsimp only at ED XL p0 p1
     have zg2:g < wr.heap.size:=by have:=kw.size;omega
     have mm1:=(BC0.out.below rj.k (by omega)).m1
     have zm:w.heap.size < wr.heap.size:=by have:=kw.size;have:=rj.m;omega
     clear ek kw
     generalize rnM d (l.take k)=M at rj hoj hcm EA ED
     generalize rnC d (l.take k)=C at rj hcl EA ED
     obtain ⟨su,cu,eu⟩:=rj.n.sl
     subst eu
     have RJ:=hidN rj
     have HCL:=hidN hcl
     have HOJ:=hidN hoj
     have HCM:=hidN hcm
     have P0:=hidN p0
     have P1:=hidN p1
     have ZG:=hidN zg2
     have ZGW:=hidN zg
     have b0:(0:Int)≤(k:Int):=by omega
     have b1:(k:Int) < (l.length:Int):=by omega
     have hwn:IntKind.i64.wrap ((d.cores.length:Int) - 1)=(d.cores.length:Int) - 1:=Go.IntWalk.i64_in _ ⟨by omega,by have:=MaFits.of HF.out;have:=mach_k HYM.out;omega⟩
     clear rj hcl hoj hcm EA
     have hne:=ext_ne wr
     have u0:=Ext.fit p0 zg2
     have u1:=Ext.fit mm1 zm
     clear p0 p1 zg2 mm1 zm
     by_cases hw:0≤xw∧xw < (d.cores.length:Int)
     ·have HB1:Hid (Plain.inB xw 0 ((d.cores.length:Int) - 1)=true):=by show _=_;unfold Plain.inB;simp;omega
      go_wp2_with fail
      refine regionExt wr (by kernel_rfl) (by kernel_rfl) ?_
      repeat (go_big_quiet_step ((rename_i X;go_at_call 23;refine (l1In_is _ _ _ true _ HB1.out).mono ?_;rintro e w3 ⟨rfl,hw3⟩;exact ⟨rfl,by rw [hw3];exact X.on (Below.refl _ _)⟩)))
      refine wpQuiet_nil ?_
      rintro w3 ⟨X3,rfl⟩
      obtain ⟨U,hU⟩:∃ U,X3.w=U:=⟨_,rfl⟩
      have kU:=X3.b
      rw [hU] at kU ⊢
      have RU:=hidN (RJ.out.keep (by have:=ZW.out;omega) kU)
      have PU0:=(kU.cell (p:=⟨g,o+k * 2,none⟩) ZG.out).trans P0.out
      have PU1:=(kU.cell (p:=⟨g,o+k * 2+1,none⟩) ZG.out).trans P1.out
      have zgU:g < U.heap.size:=Nat.lt_of_lt_of_le ZG.out kU.size
      clear hne u0 u1 hU X3 kU RJ P0 P1 ZG
      obtain ⟨n,rfl⟩:∃ n:Nat,xw=(n:Int):=⟨xw.toNat,by omega⟩
      obtain ⟨kd,code,s,ha⟩:=mach_at HOJ.out (who:=n) (by have:=HCM.out;omega)
      obtain ⟨Hq,vc,vk,vm,vt,LC',LK',S',q,q0,q1,q2,q3,hbm,hqb,sp⟩:=RU.out.o
      obtain ⟨pp,gc,cc,gk,ck,gs,cs,gr,cr,gv,cv,gO,cO,st,ct,O⟩:=q.open ha
      have ek':=O.ek
      subst ek'
      have zb:=RU.out.bx.lt
      have hne:=ext_ne U
      have u0:=Ext.fit PU0 zgU
      have u1:=Ext.fit q1 zb
      have u2:=Ext.fit O.k3 O.zk
      have n0:(0:Int)≤(n:Int):=by omega
      have n1:(n:Int) < (LK'.length:Int):=by have:=O.wk;omega
      have Q:=hidN q
      have HA:=hidN ha
      have SP:=hidN sp
      have HBM:=hidN hbm
      have HQB:=hidN hqb
      have Q0:=hidN q0
      have Q1:=hidN q1
      have Q2:=hidN q2
      have Q3:=hidN q3
      have HPU0:=hidN PU0
      have HPU1:=hidN PU1
      have ZGU:=hidN zgU
      have ZB:=hidN zb
      clear q ha sp hbm hqb q0 q1 q2 q3 PU0 PU1 zgU zb O
      by_cases hst:kd.st=0
      ·go_wp2_with fail
       refine regionExt U (by kernel_rfl) (by kernel_rfl) ?_
       repeat (go_big_quiet_step (fail))
       refine wpQuiet_nil ?_
       rintro w4 ⟨X4,rfl⟩
       obtain ⟨T,hT⟩:∃ T,X4.w=T:=⟨_,rfl⟩
       have kT:=X4.b
       rw [hT] at kT ⊢
       have ST:=hidN hst
       clear hne u0 u1 u2 hT X4 hst
       go_wp2_with fail
       have T0:=(kT.cell (p:=⟨bm,0,none⟩) ZB.out).trans Q0.out
       have T1:=(kT.cell (p:=⟨bm,1,none⟩) ZB.out).trans Q1.out
       have T2:=(kT.cell (p:=⟨bm,2,none⟩) ZB.out).trans Q2.out
       have T3:=(kT.cell (p:=⟨bm,3,none⟩) ZB.out).trans Q3.out
       have PT0:=(kT.cell (p:=⟨g,o+k * 2,none⟩) ZGU.out).trans HPU0.out
       have PT1:=(kT.cell (p:=⟨g,o+k * 2+1,none⟩) ZGU.out).trans HPU1.out
       have zT:=kT.size
       have zbT:bm < T.heap.size:=by have:=ZB.out;omega
       have zgT:g < T.heap.size:=by have:=ZGU.out;omega
       have RT:=hidN (RU.out.keep (by have:=ZW.out;omega) kT)
       have QT:=hidN (Q.out.keep (w':=T) (fun b _ h1=>kT.block b h1) kT.size)
       have nB:¬ Hq bm:=HBM.out
       have nG:¬ Hq g:=fun h=>by have:=HQB.out g h;have:=ZGW.out;have:=ZW.out;omega
       have hne:=extP_ne T Hq
       have u0:=ExtP.fit (E:=Hq) T0 zbT nB
       have u1:=ExtP.fit (E:=Hq) T1 zbT nB
       have u2:=ExtP.fit (E:=Hq) T2 zbT nB
       have u3:=ExtP.fit (E:=Hq) T3 zbT nB
       have u4:=ExtP.fit (E:=Hq) PT0 zgT nG
       have u5:=ExtP.fit (E:=Hq) PT1 zgT nG
       have HT0:=hidN T0
       have HT1:=hidN T1
       have HT2:=hidN T2
       have HT3:=hidN T3
       have ZBT:=hidN zbT
       clear T0 T1 T2 T3 PT0 PT1 zT zbT zgT kT Q0 Q1 Q2 Q3 HPU0 HPU1 ZGU ZB RU Q
       refine regionMix T (CP T Hq) 5 9 (by kernel_rfl) (by kernel_rfl) (fun _ _ d _ _ h=>by cases d<;>exact h) (CP.drew _ _) ?_
       unfold CP
       dsimp only [List.take,List.drop]
       repeat (go_big_quiet_step (fail))
       refine wpQuiet_nil ?_
       clear hne u0 u1 u2 u3 u4 u5 nB nG
       obtain ⟨V,hV⟩:∃ V,T.drew=V:=⟨_,rfl⟩
       have kV:Below T.heap.size T V:=by subst hV;exact Below.drew (Below.refl _ _)
       rw [hV]
       have RV:=hidN (RT.out.keep (by have:=ZW.out;omega) kV)
       have LS0:=l8Step_any W.heap.size vc (.slice (some ⟨gk,0,none⟩) LK'.length ck) vm vt LC' LK' S' M n kd code s xv V (QT.out.keep (w':=V) (fun b _ h1=>kV.block b h1) kV.size) HA.out RV.out.m XL.out ST.out
       obtain ⟨XX,hXX⟩:∃ X,stepM M n xv=X:=⟨_,rfl⟩
       have OK9:=hidN (stepM_ok (n:Int) xv HOJ.out)
       rw [hXX] at LS0 ED OK9
       have LS:=hidN LS0
       have V0:=hidN ((kV.cell (p:=⟨bm,0,none⟩) ZBT.out).trans HT0.out)
       have V1:=hidN ((kV.cell (p:=⟨bm,1,none⟩) ZBT.out).trans HT1.out)
       have V2:=hidN ((kV.cell (p:=⟨bm,2,none⟩) ZBT.out).trans HT2.out)
       have V3:=hidN ((kV.cell (p:=⟨bm,3,none⟩) ZBT.out).trans HT3.out)
       clear hV kV LS0 hXX HT0 HT1 HT2 HT3 ZBT RT QT HA ST HOJ
       unfold wpListC
       go_wp2_with (go_at_call 63;refine Calls.mono LS.out ?_;rintro e w9 ⟨⟨vc',vk',vm',vt',LC9,LK9,S9,rfl,q9,b9⟩,f9,-⟩;obtain ⟨p9,rfl,rfl,rfl,rfl,-⟩:=q9.mo;have eb:=f9 bm HBM.out;have e0:=(World.cell?_of_block eb).trans V0.out;have e1:=(World.cell?_of_block eb).trans V1.out;have e2:=(World.cell?_of_block eb).trans V2.out;have e3:=(World.cell?_of_block eb).trans V3.out;have ff:∀ j,w9.frozen? ⟨bm,j,none⟩=false:=fun j=>(World.frozen?_of_block eb).trans (RV.out.fm j);have zb9:bm < w9.heap.size:=(RV.out.bx.same eb).lt;have RZ:=hidN (RV.out.put (by have:=ZW.out;omega) BB.out SP.out e0 e1 e2 e3 HBM.out HQB.out q9 b9 f9))
       refine And.intro (fun _ hc=>CP.on hc b9.os b9.tape b9.output b9.size (fun b _ h2=>f9 b h2)) ?_
       clear eb q9 b9 f9 LS
       unfold wpListC
       go_wp2
       refine And.intro (fun _ hc=>hc) ?_
       unfold wpListC
       go_wp2
       refine And.intro (fun _ hc=>hc) ?_
       unfold wpListC
       go_wp2
       refine And.intro (fun _ hc=>hc) ?_
       refine listC_late _ _ _ _ (by decide) ?_
       go_upto_region 13 with fail
       obtain ⟨Z,hZ⟩:∃ Z,((((w9.setCell ⟨bm,0,none⟩ (.slice p9.s1 XX.1.codes.length p9.c1)).setCell ⟨bm,1,none⟩ (.slice p9.s2 XX.1.cores.length p9.c2)).setCell ⟨bm,2,none⟩ (.slice p9.s3 XX.1.mem.length p9.c3)).setCell ⟨bm,3,none⟩ (.slice p9.s4 XX.1.tr.length p9.c4))=Z:=⟨_,rfl⟩
       rw [hZ] at RZ ⊢
       clear hZ e0 e1 e2 e3 ff zb9 RV V0 V1 V2 V3
       go_wp2_with (at_builtin;refine app_one rfl _ _ rfl Z XX.2 (w.heap.size+1+1) (.slice su C.length cu) C rfl RZ.out.n rfl (by have:=HCL.out;omega) (by have:=RZ.out.m;have:=ZW.out;omega) ?_;intro g5 cap5 w5' ho5 hb5 hf5;have RA:=hidN (RZ.out.app OK9.out ho5 hb5 hf5);clear ho5 hb5 hf5)
       go_roundw
       case rel=>exact ⟨k+1,by omega,by go_num,by rw [ED.out.1,ED.out.2];exact RA.out⟩
       case measure=>simp [intOf];omega
      ·go_wp2_with fail
       refine regionExt U (by kernel_rfl) (by kernel_rfl) ?_
       repeat (go_big_quiet_step (fail))
       refine wpQuiet_nil ?_
       rintro w4 ⟨X4,rfl⟩
       obtain ⟨T,hT⟩:∃ T,X4.w=T:=⟨_,rfl⟩
       have kT:=X4.b
       rw [hT] at kT ⊢
       have RT:=hidN (RU.out.keep (by have:=ZW.out;omega) kT)
       rw [stepM_over HA.out xv hst] at ED
       clear hne u0 u1 u2 hT X4 kT RU n0 n1
       go_wp2_with (at_builtin;refine app_one rfl _ _ rfl T 3 (w.heap.size+1+1) (.slice su C.length cu) C rfl RT.out.n rfl (by have:=HCL.out;omega) (by have:=RT.out.m;have:=ZW.out;omega) ?_;intro g5 cap5 w5' ho5 hb5 hf5;have RA:=hidN (RT.out.app HOJ.out ho5 hb5 hf5);clear ho5 hb5 hf5)
       go_roundw
       case rel=>exact ⟨k+1,by omega,by go_num,by rw [ED.out.1,ED.out.2];exact RA.out⟩
       case measure=>simp [intOf];omega
     ·have HB1:Hid (Plain.inB xw 0 ((d.cores.length:Int) - 1)=false):=by show _=_;unfold Plain.inB;simp;omega
      go_wp2_with fail
      refine regionExt wr (by kernel_rfl) (by kernel_rfl) ?_
      repeat (go_big_quiet_step ((rename_i X;go_at_call 23;refine (l1In_is _ _ _ false _ HB1.out).mono ?_;rintro e w3 ⟨rfl,hw3⟩;exact ⟨rfl,by rw [hw3];exact X.on (Below.refl _ _)⟩)))
      refine wpQuiet_nil ?_
      rintro w3 ⟨X3,rfl⟩
      obtain ⟨U,hU⟩:∃ U,X3.w=U:=⟨_,rfl⟩
      have kU:=X3.b
      rw [hU] at kU ⊢
      have RU:=hidN (RJ.out.keep (by have:=ZW.out;omega) kU)
      rw [stepM_none (d:=M) xv (by rw [HCM.out];exact hw)] at ED
      clear hne u0 u1 hU X3 kU RJ P0 P1 ZG hw
      go_wp2_with (at_builtin;refine app_one rfl _ _ rfl U 2 (w.heap.size+1+1) (.slice su C.length cu) C rfl RU.out.n rfl (by have:=HCL.out;omega) (by have:=RU.out.m;have:=ZW.out;omega) ?_;intro g5 cap5 w5' ho5 hb5 hf5;have RA:=hidN (RU.out.app HOJ.out ho5 hb5 hf5);clear ho5 hb5 hf5)
      go_roundw
      case rel=>exact ⟨k+1,by omega,by go_num,by rw [ED.out.1,ED.out.2];exact RA.out⟩
      case measure=>simp [intOf];omega
    ·have ek:k=l.length:=by omega
     obtain ⟨e1',e2'⟩:=EA.out ek
     rw [e1',e2'] at rj
     clear e1' e2' hoj hcl hcm EA
     have zb:=rj.bx.lt
     have RK:=hidN rj
     obtain ⟨p',s',c',e',k0,k1,k2,k3,mo,sp⟩:=rj.fin
     subst e'
     have MO:=hidN mo
     have SP:=hidN sp
     have ON:=hidN rj.n
     have BCR:=hidN (BC0.out.below rj.k (by omega))
     obtain ⟨-,-,-,-,a0,a1,a2,a3,fa,zz2⟩:=BCR.out
     have ne:¬ bm=w.heap.size+1:=by have:=BB.out;have:=ZW.out;omega
     have ne':¬ w.heap.size+1=bm:=fun e=>ne e.symm
     have b1:¬ (k:Int) < (l.length:Int):=by omega
     clear mo sp rj hlt ek
     go_wp2
     obtain ⟨Z,hZ,g0,g1,g2,g3,fz,sz,bz⟩:=BCR.out.put (a:=.slice p'.s1 RS.codes.length p'.c1) (b:=.slice p'.s2 RS.cores.length p'.c2) (c:=.slice p'.s3 RS.mem.length p'.c3) (d:=.slice p'.s4 RS.tr.length p'.c4)
     refine bodyPost_ret (v:=.tuple #[.agg #[.slice p'.s1 RS.codes.length p'.c1,.slice p'.s2 RS.cores.length p'.c2,.slice p'.s3 RS.mem.length p'.c3,.slice p'.s4 RS.tr.length p'.c4],.slice s' RC.length c']) ?_ rfl ?_
     ·rw [hZ]
      simp [results,Tryz.results108,go_sem,g0,g1,g2,g3]
     ·rw [hZ]
      exact finS BCR.out (by have:=ZW.out;omega) (by omega) MO.out ON.out SP.out (KT.out _ RK.out.k) fz sz bz
end
section
set_option linter.unusedSimpArgs false
set_option linter.unusedVariables false
set_option maxRecDepth 100000
open Go.RowKit
theorem CB.lowB {w w':World} {p n c B:Nat} {s:Option Addr} (h:CB w p s n c) (hb:Below B w w') (hp:p < B):CB w' p s n c:=by
 have hb':Below (p+1) w w':=hb.mono hp
 obtain ⟨⟨i,hh,c0,c1,c2,hf,hi,hi',hz⟩,h2,h3⟩:=h
 exact ⟨⟨i,hh,(hb'.cell (p:=⟨p,0,none⟩) (by simp)).trans c0,(hb'.cell (p:=⟨p,1,none⟩) (by simp)).trans c1,(hb'.cell (p:=⟨p,2,none⟩) (by simp)).trans c2,fun j=>(hb'.frozen (p:=⟨p,j,none⟩) (by simp)).trans (hf j),hi,hi',by have:=hb'.size;omega⟩,h2.below hb' (by omega),h3⟩
structure CdD (w wr:World) (p:Nat) (s:Option Addr) (n c:Nat) (v:Value) (L:List CV):Prop where
 o:OwnC wr w.heap.size v L
 ok:∀ x∈L,codeB x.l=true∧x.l.length≤15
 cb:CB wr p s n c
 bt:But p w wr
theorem CdD.but {w wr w':World} {p n c:Nat} {s:Option Addr} {v:Value} {L:List CV} (h:CdD w wr p s n c v L) (hp:p < w.heap.size) (hc:CB w' p s n c) (hb:But p wr w'):CdD w w' p s n c v L:=
 ⟨h.o.keep (fun k h1 h2=>hb.block k h2 (by omega)),h.ok,hc,h.bt.trans hb⟩
theorem szC_le {m:Nat}:∀ (L:List (List I5)),(∀ x∈L,x.length≤m)→szC L≤m * L.length
 | [],_=>by simp [szC]
 | x::r,h=>by
  have h1:=szC_le r (fun y hy=>h y (List.mem_cons_of_mem _ hy))
  have h2:=h x (List.mem_cons_self ..)
  simp [szC,Nat.mul_add]
  omega
theorem codes_make {L:List CV} (h:∀ x∈L,codeB x.l=true∧x.l.length≤15) (h1:1≤L.length) (h4:L.length≤4):codesB (L.map CV.l)=true∧szC (L.map CV.l)≤60:=by
 refine ⟨?_,?_⟩
 ·unfold codesB
  rw [Bool.and_eq_true,decide_eq_true_eq]
  refine ⟨by simp;omega,?_⟩
  rw [List.all_eq_true]
  intro x hx
  obtain ⟨y,hy,rfl⟩:=List.mem_map.1 hx
  exact (h y hy).1
 ·have:=szC_le (m:=15) (L.map CV.l) (fun x hx=>by
   obtain ⟨y,hy,rfl⟩:=List.mem_map.1 hx
   exact (h y hy).2)
  rw [List.length_map] at this
  omega
theorem but_low {p:Nat} {a b c:World} (h:But p a b) (k:Below a.heap.size b c):But p a c:=
 ⟨k.os.trans h.os,k.tape.trans h.tape,k.output.trans h.output,Nat.le_trans h.size k.size,fun i hi hp=>(k.block i hi).trans (h.block i hi hp)⟩
theorem But.keepG {p lo hi:Nat} {a b:World} (h:But p a b) (hp:p < lo) (hi':hi≤a.heap.size):Keep lo hi a b:=fun k h1 h2=>h.block k (by omega) (by omega)
theorem X4.but {w w':World} {b p:Nat} {v0 v1 v2 v3:Value} (h:X4 w b v0 v1 v2 v3) (hb:But p w w') (hp:b≠p):X4 w' b v0 v1 v2 v3:=h.blk (hb.block b h.x.z hp) hb.size
theorem CdD.add {w wr w':World} {p n c g cap:Nat} {s:Option Addr} {v:Value} {L:List CV} {y:CV} (h:CdD w wr p s n c v L) (hp:p < w.heap.size) (hy:codeB y.l=true∧y.l.length≤15) (hq:PushedC wr w' w.heap.size v L y g cap):CdD w w' p s n c (.slice (some ⟨g,0,none⟩) (L.length+1) cap) (L++[y]):=by
 refine ⟨hq.own,fun x hx=>?_,h.cb.lowB hq.low hp,but_low h.bt hq.low⟩
 rcases List.mem_append.1 hx with e | e
 ·exact h.ok x e
 ·simp at e;subst e;exact hy
theorem CdD.cs {w wr:World} {p n c:Nat} {s:Option Addr} {v:Value} {L:List CV} (h:CdD w wr p s n c v L):∃ su cu,v=.slice su L.length cu∧CsR wr w.heap.size wr.heap.size su (L.map CV.l):=by
 obtain ⟨su,cu,R,e,g⟩:=h.o.go
 refine ⟨su,cu,e,GO.csR (R:=R) ?_⟩
 rw [List.map_map]
 exact g
/- a machine of drawn codes: little -/
theorem newMd_sz {l:List (List I5)} (h4:l.length≤4) (h:szC l≤60):MaSz (newMd l)≤1000:=by
 have e1:szK (List.replicate l.length zKD)=l.length * 32:=szK_new _
 have e2:(newM 24).length+szR (newM 24)≤700:=by decide+kernel
 unfold MaSz newMd
 simp only [List.length_replicate,List.length_nil]
 omega
theorem rnMd_sz {d:MD} {l:List ND} (hm:machB d=true) (hd:MaSz d≤1000) (hl:l.length≤120):MaSz (runMb d l)≤20000∧machB (runMb d l)=true:=by
 have c:l.length≤4000∧machB d=true:=⟨by omega,hm⟩
 have e1:runMb d l=rnM d l:=by unfold runMb;rw [if_pos c]
 rw [e1]
 have ok:=rnM_ok l hm
 have h1:=rnM_sz l hm
 have h2:=rnM_cds l hm
 have h3:=mach_k ok
 refine ⟨?_,ok⟩
 unfold MaSz at hd ⊢
 rw [h2]
 omega
structure RtD (w w':World) (p:Nat) (s:Option Addr) (n c:Nat) (q:MP) (d:MD):Prop where
 mq:∃ LC LK S,MQ0 w' w.heap.size (.slice q.s1 d.codes.length q.c1) (.slice q.s2 d.cores.length q.c2) (.slice q.s3 d.mem.length q.c3) (.slice q.s4 d.tr.length q.c4) LC LK S d
 ok:machB d=true
 sz:MaSz d≤20000
 cb:CB w' p s n c
 bt:But p w w'
set_option maxRecDepth 100000 in
set_option maxHeartbeats 4000000 in
theorem drawRight_ok (p : Nat) (s : Option Addr) (n c : Nat) (w : World) (h : CB w p s n c) :
  Calls Tryz.prog 80 #[.pointer (some ⟨p,0,none⟩)] w fun e w'=>∃ (q:MP) (d:MD),e=.returned (.agg #[.slice q.s1 d.codes.length q.c1,.slice q.s2 d.cores.length q.c2,.slice q.s3 d.mem.length q.c3,.slice q.s4 d.tr.length q.c4])∧RtD w w' p s n c q d:=by
 have hp:=h.lt
 have H0:Hid (CB w p s n c):=h
 clear h
 go_enter Tryz.func80,Tryz.ntmps80
 obtain ⟨W0,hW0,x0,k0,z0⟩:=X4.new w (.slice none 0 0) (.slice none 0 0) (.slice none 0 0) (.slice none 0 0) 38
 have HW0:=hidM1 hW0
 have X0:=hidM1 x0
 have K0:=hidM1 k0
 have C0:=hidM1 (H0.out.lowB k0 hp)
 clear hW0 x0 k0 H0
 have hpW:p < W0.heap.size:=by omega
 have P0:Hid (CdD W0 (W0.alloc (.cells #[] 102)) p s n c (.slice (some ⟨W0.heap.size,0,none⟩) 0 0) []):=by
  refine ⟨⟨?_,fun i x hx=>by simp at hx,fun i j x y k hx=>by simp at hx⟩,fun x hx=>by simp at hx,C0.out.alloc _,(But.refl _ _).alloc _⟩
  have h0:=World.ownsRow_lit (base:=W0.heap.size) (e:=102) (size:=1) W0 #[] 0 (Nat.le_refl _) (by unfold maxLen;omega) rfl
  exact h0
 go_upto_region 1 with fail
 rw [HW0.out]
 clear HW0
 go_wp2_with fail
 go_loopw [3,4] (fun v i wr=>∃ (j:Nat) (L:List CV),j≤3∧i=.int .i64 j∧L.length=j∧CdD W0 wr p s n c v L) (fun _ i _=>3 - (intOf i).toNat)
 case atStart=>exact ⟨0,[],by omega,rfl,rfl,P0.out⟩
 case round=>
  obtain ⟨j,L,hj,rfl,hl,hd⟩:=hrel
  have D:=hidM1 hd
  have HL:=hidM1 hl
  obtain ⟨sa,ca,ea⟩:=ownSl hd.o.row
  subst ea
  clear hd hl P0
  have hzr:=D.out.bt.size
  go_wp2_with fail
  refine (below_cb p s n c 3 wr D.out.cb (by omega) (by omega)).mono ?_
  rintro e w6 ⟨x,rfl,x0,x1,hc6,hb6⟩
  have D6:=hidM1 (D.out.but hpW hc6 hb6)
  have hz6:=D6.out.bt.size
  clear hc6 hb6 D
  by_cases hlt:(j:Int) < 1+x
  ·have hj3:j < 3:=by omega
   go_wp2_with fail
   refine (drawCode_ok p s n c w6 D6.out.cb).mono ?_
   rintro e w7 ⟨v7,l7,rfl,ho7,hok7,hl7,hc7,hb7⟩
   obtain ⟨su,cu,rfl⟩:=ownSl ho7
   have D7:=hidM1 (D6.out.but hpW hc7 hb7)
   have O7:=hidM1 ho7
   have T7:Hid (OwnT5 w7 W0.heap.size (.slice su l7.length cu) l7):=ownLow' ho7 (by omega)
   have OK7:Hid (codeB l7=true∧l7.length≤15):=⟨hok7,hl7⟩
   have SP:Hid (∀ (i:Nat) (z:CV) (k:Nat),L[i]? =some z→(Value.slice su l7.length cu).ownBlock=some k→z.v.ownBlock≠some k):=fun i z k hz h1 h2=>by
    have q1:=(World.ownsRow.lt ho7 _ h1).1
    have q2:=(World.ownsRow.lt (D6.out.o.inn i z hz) _ h2).2
    omega
   have hz7:=D7.out.bt.size
   clear ho7 hok7 hl7 hc7 hb7 D6
   go_wp2_with (at_builtin;refine app_rowC rfl _ _ rfl w7 W0.heap.size (.slice sa L.length ca) L ⟨l7,.slice su l7.length cu⟩ rfl D7.out.o T7.out rfl rfl (by have:=HL.out;omega) (by omega) SP.out ?_;intro g5 cap5 w8 hp8;have D8:=hidM1 (D7.out.add hpW OK7.out hp8);clear hp8)
   go_roundw
   case rel=>exact ⟨j+1,L++[⟨l7,.slice su l7.length cu⟩],by omega,by go_num,by rw [List.length_append,HL.out];rfl,D8.out⟩
   case measure=>simp [intOf];omega
  ·have hj1:1≤j:=by omega
   have CM:=hidM1 (codes_make D6.out.ok (by have:=HL.out;omega) (by have:=HL.out;omega))
   obtain ⟨su,cu,ev,cs⟩:=D6.out.cs
   injection ev with ev1 _ ev3
   subst ev1 ev3
   have LM:Hid (L.length≤4):=by show _≤_;have:=HL.out;omega
   obtain ⟨D0,hD0⟩:∃ D,newMd (L.map CV.l)=D:=⟨_,rfl⟩
   have NEW:=specMachNew_any sa ca _ _ (L.map CV.l) w6 cs (Nat.le_refl _) (by have h1:=CM.out.2;have h2:=LM.out;rw [List.length_map];omega)
   have eN:newMa (L.map CV.l)=D0:=by unfold newMa;rw [CM.out.1];exact hD0
   rw [eN,List.length_map] at NEW
   have SZ0:Hid (MaSz D0≤1000):=by rw [← hD0];exact newMd_sz (by rw [List.length_map];exact LM.out) CM.out.2
   have OK0:Hid (machB D0=true):=by rw [← hD0];show _=_;rw [mach_new];exact CM.out.1
   have N:=hidM1 NEW
   clear NEW eN hD0 cs CM
   go_wp2_with fail
   refine N.out.mono ?_
   rintro e w8 ⟨q8,rfl,ho8,hb8⟩
   have z8:=hb8.size
   have M8:=hidM1 ho8.ma
   have D8:=hidM1 (D6.out.cb.lowB hb8 (by omega))
   have B8:=hidM1 (but_low (D6.out.bt) (hb8.mono (by omega)))
   clear ho8 hb8 N D6
   go_upto_region 7 with fail
   obtain ⟨V9,hV9,x9,k9,z9⟩:=X4.new w8 (.slice q8.s1 D0.codes.length q8.c1) (.slice q8.s2 D0.cores.length q8.c2) (.slice q8.s3 D0.mem.length q8.c3) (.slice q8.s4 D0.tr.length q8.c4) 38
   rw [hV9]
   clear hV9
   have X9:=hidM1 x9
   have M9:=hidM1 (M8.out.keep (Keep.of_below k9 (Nat.le_refl _)))
   have C9:=hidM1 (D8.out.lowB k9 (by omega))
   have B9:=hidM1 (but_low B8.out (k9.mono (by omega)))
   clear x9 k9 M8 D8 B8
   obtain ⟨⟨xz,xc0,xc1,xc2,xc3⟩,xf⟩:=X9.out
   have hw8:p < w8.heap.size:=by omega
   have hne:=extN_ne V9 (some p)
   have ng:(some p:Option Nat)≠some w8.heap.size:=fun e=>by injection e with e;omega
   have u0:=ExtN.fit xc0 xz ng
   have u1:=ExtN.fit xc1 xz ng
   have u2:=ExtN.fit xc2 xz ng
   have u3:=ExtN.fit xc3 xz ng
   refine regionMix V9 (CN V9 (some p)) 3 9 (by kernel_rfl) (by kernel_rfl) (fun _ _ d _ _ h=>by cases d<;>exact h) (CN.drew _ _) ?_
   unfold CN
   dsimp only [List.take,List.drop]
   repeat (go_big_quiet_step (fail))
   refine wpQuiet_nil ?_
   clear hne u0 u1 u2 u3 ng
   obtain ⟨V,hV⟩:∃ V,V9.drew=V:=⟨_,rfl⟩
   have kV:Below V9.heap.size V9 V:=by subst hV;exact Below.drew (Below.refl _ _)
   rw [hV]
   have zV:=kV.size
   have XV:=hidM1 (X9.out.keep kV z9)
   have MV:=hidM1 (M9.out.keep (Keep.of_below kV (by omega)))
   have BV:=hidM1 (but_low B9.out (kV.mono (by omega)))
   have PKC:=hidM1 (drawPicks_ok p s n c L.length 12 V (C9.out.lowB kV (by omega)) (by have:=LM.out;omega) (by omega) (by omega))
   clear hV kV X9 M9 B9 C9 xz xc0 xc1 xc2 xc3 xf
   unfold wpListC
   go_wp2
   refine And.intro (fun _ hc=>hc) ?_
   unfold wpListC
   go_wp2_with (go_at_call 109;refine PKC.out.mono ?_;rintro e w10 ⟨vp,lp,rfl,hpk⟩;have PK:=hidM1 hpk;obtain ⟨sp,cp,ep,nt⟩:=hpk.o.nts;subst ep;have NT:=hidM1 nt;have BT:=hidM1 hpk.bt;have X10:=hidM1 (XV.out.but hpk.bt (by omega));have zz10:=hpk.bt.size;clear hpk nt)
   refine And.intro (fun _ hc=>CN.on hc BT.out.os BT.out.tape BT.out.output BT.out.size (fun b h1 h2=>BT.out.block b h1 (fun e=>h2 (by rw [e])))) ?_
   have M10:=hidM1 (MV.out.keep (BT.out.keepG (by omega) (by omega)))
   have B10:=hidM1 (BV.out.trans BT.out)
   have ok10:=hidM1 (rnMd_sz (l:=lp) OK0.out SZ0.out PK.out.le)
   have CALL0:=specMRun_full q8.s1 q8.s2 q8.s3 q8.s4 sp q8.c1 q8.c2 q8.c3 q8.c4 cp _ _ _ _ D0 lp w10 M10.out NT.out (by omega) (Nat.le_refl _) (by have:=SZ0.out;omega) (by have:=PK.out.le;omega) (fun x hx=>by have:=(PK.out.v3 x hx).2;omega)
   obtain ⟨E,hE⟩:∃ E,runMb D0 lp=E:=⟨_,rfl⟩
   rw [hE] at CALL0 ok10
   have CALL:=hidM1 CALL0
   clear CALL0 hE PKC MV BV XV M10
   unfold wpListC
   go_wp2_with (go_at_call 108;refine CALL.out.mono ?_;rintro e w11 ⟨xg,tg,eg,rfl,ho11,-,-,hb11,mq11⟩;have Q11:=hidM1 mq11;have z11:=hb11.size;have X11:=hidM1 (X10.out.keep hb11 (by omega));have O11:=hidM1 ho11;have K11:=hidM1 hb11;clear ho11 hb11 mq11)
   refine And.intro (fun _ hc=>CN.below hc K11.out) ?_
   obtain ⟨⟨xz,xc0,xc1,xc2,xc3⟩,xf⟩:=X11.out
   unfold wpListC
   go_wp2
   refine And.intro (fun _ hc=>hc) ?_
   unfold wpListC
   go_wp2
   refine And.intro (fun _ hc=>hc) ?_
   unfold wpListC
   go_wp2
   refine And.intro (fun _ hc=>hc) ?_
   refine listC_late _ _ _ _ (by decide) ?_
   go_upto_region 8 with fail
   obtain ⟨Z,hZ,xZ,mZ,sZ,fZ,bZ⟩:=X4.put4 (.slice xg.s1 E.codes.length xg.c1) (.slice xg.s2 E.cores.length xg.c2) (.slice xg.s3 E.mem.length xg.c3) (.slice xg.s4 E.tr.length xg.c4) X11.out O11.out.ma (by omega)
   rw [hZ]
   clear xz xc0 xc1 xc2 xc3 xf hZ
   have OZ:Hid (MaO Z w10.heap.size w11.heap.size xg E):=O11.out.keep (fun k h1 _=>fZ k (by omega))
   have CZ:Hid (CB Z p s n c):=(PK.out.cb.lowB K11.out (by omega)).lowB (bZ _ _ (Below.refl w8.heap.size w11) (Nat.le_refl _)) (by omega)
   have BZ:Hid (But p W0 Z):=but_low (but_low B10.out (K11.out.mono (by omega))) (bZ _ _ (Below.refl w8.heap.size w11) (Nat.le_refl _) |>.mono (by omega))
   have XR:Hid (X4 Z w.heap.size (.slice none 0 0) (.slice none 0 0) (.slice none 0 0) (.slice none 0 0)):=X0.out.but BZ.out (by omega)
   obtain ⟨⟨xz,xc0,xc1,xc2,xc3⟩,xf⟩:=xZ
   obtain ⟨⟨rz,rc0,rc1,rc2,rc3⟩,rf⟩:=XR.out
   have ne:¬ w8.heap.size=w.heap.size:=by omega
   have ne':¬ w.heap.size=w8.heap.size:=by omega
   go_wp2
   refine bodyPost_ret (v:=.agg #[.slice xg.s1 E.codes.length xg.c1,.slice xg.s2 E.cores.length xg.c2,.slice xg.s3 E.mem.length xg.c3,.slice xg.s4 E.tr.length xg.c4]) ?_ rfl ⟨xg,E,rfl,?_⟩
   ·simp [results,Tryz.results80,go_sem,rc0,rc1,rc2,rc3]
   ·obtain ⟨Y,hY,-,-,sY,fY,bY⟩:=X4.put4 (.slice xg.s1 E.codes.length xg.c1) (.slice xg.s2 E.cores.length xg.c2) (.slice xg.s3 E.mem.length xg.c3) (.slice xg.s4 E.tr.length xg.c4) XR.out OZ.out.ma (by omega)
    rw [hY]
    have kY:=bY _ _ (Below.refl w.heap.size Z) (Nat.le_refl _)
    obtain ⟨LC,LK,S,mq⟩:=Q11.out
    exact ⟨⟨LC,LK,S,((mq.keep (fun k h1 _=>fZ k (by omega)) (by omega)).keep (fun k h1 _=>fY k (by omega)) (by omega)).low (by omega)⟩,ok10.out.2,ok10.out.1,CZ.out.lowB kY hp,but_low ((But.of_below K0.out).trans BZ.out) kY⟩
end
section
set_option linter.unusedSimpArgs false
set_option linter.unusedVariables false
set_option maxRecDepth 100000
open Go.RowKit
end
section
set_option linter.unusedSimpArgs false
set_option linter.unusedVariables false
set_option maxRecDepth 100000
open Go.RowKit
structure LM (w V:World) (p:Nat) (s:Option Addr) (n c bx:Nat) (vc vk vm vt:Value) (LC:List CV) (LK:List KV) (S:List RS) (d:MD):Prop where
 x:X4 V bx vc vk vm vt
 ty:BxT V bx
 mq:MQ0 V (w.heap.size+1) vc vk vm vt LC LK S d
 ok:machB d=true
 sz:MaSz d≤20000
 cb:CB V p s n c
 bt:But p w V
 r:X4 V w.heap.size (.slice none 0 0) (.slice none 0 0) (.slice none 0 0) (.slice none 0 0)
 pw:p < w.heap.size
 wb:w.heap.size < bx
structure EM (w V:World) (p:Nat) (s:Option Addr) (n c bx:Nat) (q:MP) (d:MD):Prop where
 x:X4 V bx (.slice q.s1 d.codes.length q.c1) (.slice q.s2 d.cores.length q.c2) (.slice q.s3 d.mem.length q.c3) (.slice q.s4 d.tr.length q.c4)
 ma:MaR V (w.heap.size+1) V.heap.size q.s1 q.s2 q.s3 q.s4 d
 sz:MaSz d≤21000
 k:d.cores.length≤4
 cb:CB V p s n c
 bt:But p w V
 r:X4 V w.heap.size (.slice none 0 0) (.slice none 0 0) (.slice none 0 0) (.slice none 0 0)
 pw:p < w.heap.size
 wb:w.heap.size < bx
theorem LM.step {w V V':World} {p n c bx:Nat} {s:Option Addr} {vc vk vm vt:Value} {LC:List CV} {LK:List KV} {S:List RS} {d:MD} (h:LM w V p s n c bx vc vk vm vt LC LK S d) (hc:CB V' p s n c) (hb:But p V V'):LM w V' p s n c bx vc vk vm vt LC LK S d:=by
 have h1:=h.pw
 have h2:=h.wb
 obtain ⟨cs,f,e⟩:=h.ty
 exact ⟨h.x.but hb (by omega),⟨cs,f,(hb.block bx h.x.x.z (by omega)).trans e⟩,h.mq.keep (fun k k1 k2=>hb.block k k2 (by omega)) hb.size,h.ok,h.sz,hc,h.bt.trans hb,h.r.but hb (by omega),h1,h2⟩
/- whatever the machine has become: its rows are owned whole -/
theorem em_of {w V:World} {p n c bx:Nat} {s:Option Addr} {vc vk vm vt:Value} {LC:List CV} {LK:List KV} {S:List RS} {d:MD} (x:X4 V bx vc vk vm vt) (mq:MQ0 V (w.heap.size+1) vc vk vm vt LC LK S d) (sz:MaSz d≤21000) (k:d.cores.length≤4) (cb:CB V p s n c) (bt:But p w V) (r:X4 V w.heap.size (.slice none 0 0) (.slice none 0 0) (.slice none 0 0) (.slice none 0 0)) (pw:p < w.heap.size) (wb:w.heap.size < bx):∃ q,EM w V p s n c bx q d:=by
 obtain ⟨q,e1,e2,e3,e4,mo,-⟩:=mq.mo
 subst e1 e2 e3 e4
 exact ⟨q,x,mo.ma,sz,k,cb,bt,r,pw,wb⟩
theorem mach_k4 {d:MD} (h:machB d=true):d.cores.length≤4:=by
 have h1:=mach_len h
 unfold machB at h
 simp only [Bool.and_eq_true] at h
 have h2:=h.1
 unfold codesB at h2
 simp only [Bool.and_eq_true] at h2
 have h3:=of_decide_eq_true h2.1
 omega
theorem mach_k1 {d:MD} (h:machB d=true):0 < d.cores.length:=by
 have h1:=mach_len h
 unfold machB at h
 simp only [Bool.and_eq_true] at h
 have h2:=h.1
 unfold codesB at h2
 simp only [Bool.and_eq_true] at h2
 have h3:=of_decide_eq_true h2.1
 omega
theorem LM.asIs {w V:World} {p n c bx:Nat} {s:Option Addr} {vc vk vm vt:Value} {LC:List CV} {LK:List KV} {S:List RS} {d:MD} (h:LM w V p s n c bx vc vk vm vt LC LK S d):∃ q,EM w V p s n c bx q d:=
 em_of h.x h.mq (by have:=h.sz;omega) (mach_k4 h.ok) h.cb h.bt h.r h.pw h.wb
theorem szK_set:∀ (l:List KD) (i:Nat) (x y:KD),l[i]? =some x→y.regs.length=x.regs.length→y.vw.length=x.vw.length→szK (l.set i y)=szK l
 | [],i,x,y,h,_,_=>by simp at h
 | z::r,0,x,y,h,h1,h2=>by simp at h;subst h;simp [szK,h1,h2]
 | z::r,i+1,x,y,h,h1,h2=>by
  have q:=szK_set r i x y (by simpa using h) h1 h2
  simp [szK,q]
theorem putK_sz {d:MD} {i:Nat} {x y:KD} (h:d.cores[i]? =some x) (h1:y.regs.length=x.regs.length) (h2:y.vw.length=x.vw.length):MaSz (putK d i y)=MaSz d∧(putK d i y).cores.length=d.cores.length:=by
 have e:=szK_set d.cores i x y h h1 h2
 refine ⟨?_,by show (d.cores.set i y).length=_;rw [List.length_set]⟩
 unfold MaSz
 show d.codes.length+szC d.codes+((d.cores.set i y).length+szK (d.cores.set i y))+(d.mem.length+szR d.mem)+d.tr.length=_
 rw [e,List.length_set]
/- core 0 -/
theorem LM.core {w V:World} {p n c bx:Nat} {s:Option Addr} {vc vk vm vt:Value} {LC:List CV} {LK:List KV} {S:List RS} {d:MD} (h:LM w V p s n c bx vc vk vm vt LC LK S d):∃ k code st p' gc cc gk ck gs cs gr cr gv cv gO cO sr ct,d.cores[0]? =some k∧Op8 V (w.heap.size+1) vc vk vm vt LK d 0 p' k code st gc cc gk ck gs cs gr cr gv cv gO cO sr ct∧k.regs.length=8∧LK.length=d.cores.length∧gk≠bx∧gr≠bx∧gv≠bx∧gc≠bx:=by
 obtain ⟨k,code,st,ha⟩:=mach_at h.ok (mach_k1 h.ok)
 obtain ⟨p',gc,cc,gk,ck,gs,cs,gr,cr,gv,cv,gO,cO,sr,ct,o⟩:=h.mq.open ha
 have hk:=own_bx h.mq.k.row (by decide) h.ty
 have hc:=own_bx h.mq.c.row (by decide) h.ty
 have hr:=own_bx (h.mq.k.inn 0 _ o.hx).1 (by decide) h.ty
 have hv:=own_bx (h.mq.k.inn 0 _ o.hx).2 (by decide) h.ty
 refine ⟨k,code,st,p',gc,cc,gk,ck,gs,cs,gr,cr,gv,cv,gO,cO,sr,ct,ha.hk,o,ha.regs,by have:=h.mq.ek;rw [← this,List.length_map],fun e=>?_,fun e=>?_,fun e=>?_,fun e=>?_⟩
 ·exact hk (by rw [o.ek,e];rfl)
 ·exact hr (by rw [e];rfl)
 ·exact hv (by rw [e];rfl)
 ·exact hc (by rw [o.ec,e];rfl)
/- a store of a number into a row of the machine -/
theorem LM.row {w V:World} {p n c bx g j:Nat} {s:Option Addr} {vc vk vm vt u:Value} {LC LC':List CV} {LK LK':List KV} {S S':List RS} {d d':MD} (h:LM w V p s n c bx vc vk vm vt LC LK S d) (hg:w.heap.size+1≤g) (hb:g≠bx) (mq:MQ0 (V.setCell ⟨g,j,none⟩ u) (w.heap.size+1) vc vk vm vt LC' LK' S' d') (hs:MaSz d'=MaSz d∧d'.cores.length=d.cores.length):∃ q,EM w (V.setCell ⟨g,j,none⟩ u) p s n c bx q d':=by
 have h1:=h.pw
 have h2:=h.wb
 have h3:=h.sz
 have h4:=mach_k4 h.ok
 exact em_of (h.x.off (Ne.symm hb)) mq (by omega) (by omega) (h.cb.set (a:=⟨g,j,none⟩) (by show p < g;omega)) (but_at h.bt (by omega)) (h.r.off (by omega)) h1 h2
theorem LM.pc {w V:World} {p n c bx:Nat} {s:Option Addr} {vc vk vm vt:Value} {LC:List CV} {LK:List KV} {S:List RS} {d:MD} {k:KD} {code:List I5} {st:I5} {p' gc cc gk ck gs cs gr cr gv cv gO cO ct:Nat} {sr:Option Addr} (h:LM w V p s n c bx vc vk vm vt LC LK S d) (hk:d.cores[0]? =some k) (o:Op8 V (w.heap.size+1) vc vk vm vt LK d 0 p' k code st gc cc gk ck gs cs gr cr gv cv gO cO sr ct) (hb:gk≠bx) (z:Int):∃ q d',d'.cores.length=d.cores.length∧EM w (V.setCell ⟨gk,0,none⟩ (.int .i64 z)) p s n c bx q d':=by
 have e:=o.ek
 have mq:=h.mq
 rw [e] at mq
 have q:=(mq.setK o.hx z).1
 have hs:=putK_sz (y:={ k with pc:=z }) hk rfl rfl
 rw [← e] at q
 obtain ⟨q',hq⟩:=h.row (j:=0) o.bk hb (by simpa using q) hs
 exact ⟨q',_,hs.2,hq⟩
theorem LM.reg {w V:World} {p n c bx:Nat} {s:Option Addr} {vc vk vm vt:Value} {LC:List CV} {LK:List KV} {S:List RS} {d:MD} {k:KD} {code:List I5} {st:I5} {p' gc cc gk ck gs cs gr cr gv cv gO cO ct:Nat} {sr:Option Addr} (h:LM w V p s n c bx vc vk vm vt LC LK S d) (hk:d.cores[0]? =some k) (h8:k.regs.length=8) (o:Op8 V (w.heap.size+1) vc vk vm vt LK d 0 p' k code st gc cc gk ck gs cs gr cr gv cv gO cO sr ct) (hb:gr≠bx) (j:Nat) (z:Int):∃ q d',d'.cores.length=d.cores.length∧EM w (V.setCell ⟨gr,j,none⟩ (.int .i64 z)) p s n c bx q d':=by
 have q:=h.mq.setR (j:=j) o.hx (by show _=_;rw [h8]) z
 have hs:=putK_sz (y:={ k with regs:=k.regs.set j z }) hk (by simp) rfl
 obtain ⟨q',hq⟩:=h.row (j:=j) o.br hb q hs
 exact ⟨q',_,hs.2,hq⟩
/- a number put into a view -/
theorem MQ0.setW {w : World} {B g c j : Nat} {vc vk vm vt : Value} {LC : List CV} {LK : List KV} {S : List RS} {d : MD} (h : MQ0 w B vc vk vm vt LC LK S d) {i : Nat} {x : KV} (hx : LK[i]? = some x) (hr : x.v = .slice (some ⟨g, 0, none⟩) x.d.vw.length c) (z : Int) :
  MQ0 (w.setCell ⟨g,j,none⟩ (.int .i64 z)) B vc vk vm vt LC (LK.set i ⟨{ x.d with vw:=x.d.vw.set j z },x.r,x.v⟩) S (putK d i { x.d with vw:=x.d.vw.set j z }):=by
 have hxo:=(h.k.inn i x hx).2
 have hrow:w.ownsRow B 3 1 (.slice (some ⟨g,0,none⟩) x.d.vw.length c) x.d.vw.length (x.d.vw.map (Value.int .i64)):=by have q:=hxo;unfold OwnN at q;rw [hr] at q;exact q
 have hxb:x.v.ownBlock=some g:=by rw [hr];rfl
 have ne:∀ {e:TypeId} {size n:Nat} {u:Value} {xs:List Value},w.ownsRow B e size u n xs→e≠3→∀ k,u.ownBlock=some k→(w.setCell ⟨g,j,none⟩ (.int .i64 z)).heap[k]? =w.heap[k]? :=fun hu he k hk'=>Below.heap_setCell _ _ _ k (fun e=>ownType' hu hrow he hk' (by rw [e];rfl))
 have nn:∀ {u:Value} {l:List Int},OwnN w B u l→u.ownBlock≠some g→OwnN (w.setCell ⟨g,j,none⟩ (.int .i64 z)) B u l:=fun hu hn=>ownKeep' hu (fun k hk=>Below.heap_setCell _ _ _ k (fun e=>hn (hk.trans (congrArg some e))))
 refine ⟨⟨ownKeep' h.c.row (ne h.c.row (by decide)),fun i' x' hx'=>ownKeep' (h.c.inn i' x' hx') (ne (h.c.inn i' x' hx') (by decide)),h.c.sep⟩,h.ec,?_,?_,?_,ownKeep' h.t (ne h.t (by decide)),sk_turn h.sk hx rfl rfl⟩
 ·refine h.k.turn hx rfl rfl ?_ ⟨nn (h.k.inn i x hx).1 (fun e=>h.k.two i x g hx e hxb),?_⟩ (fun j' z' hj hz'=>?_)
  ·have r:=ownKeep' h.k.row (ne h.k.row (by decide))
   have e:=flatK_same LK i x ⟨{ x.d with vw:=x.d.vw.set j z },x.r,x.v⟩ hx rfl rfl rfl rfl
   rw [e]
   exact r
  ·show (w.setCell ⟨g,j,none⟩ (.int .i64 z)).ownsRow B 3 1 x.v (x.d.vw.set j z).length ((x.d.vw.set j z).map (Value.int .i64))
   rw [hr,List.length_set,List.map_set]
   exact (World.ownsRow.stored hrow j (.int .i64 z)).1
  ·have q:=h.k.sep i j' x z' g hx hz' (Ne.symm hj) (.inr hxb)
   exact ⟨nn (h.k.inn j' z' hz').1 (fun e=>q (.inl e)),nn (h.k.inn j' z' hz').2 (fun e=>q (.inr e))⟩
 ·show (LK.set i _).map KV.d=d.cores.set i _
  rw [List.map_set,h.ek]
 ·refine ⟨h.m.n,ownKeep' h.m.row (ne h.m.row (by decide)),fun i' r l hr' hl=>?_,h.m.d⟩
  have q:=h.m.r i' r l hr' hl
  refine q.kept (ne q.own (by decide)) (fun a ha=>Below.heap_setCell _ _ _ _ (fun e=>?_)) (by simp)
  refine h.sk i x g hx (.inr hxb) a (mem_mAs.2 ⟨r,List.mem_of_getElem? hr',mem_rAs.2 (.inr (mem_vsA.1 ha))⟩) e
theorem LM.vw {w V:World} {p n c bx:Nat} {s:Option Addr} {vc vk vm vt:Value} {LC:List CV} {LK:List KV} {S:List RS} {d:MD} {k:KD} {code:List I5} {st:I5} {p' gc cc gk ck gs cs gr cr gv cv gO cO ct:Nat} {sr:Option Addr} (h:LM w V p s n c bx vc vk vm vt LC LK S d) (hk:d.cores[0]? =some k) (h24:k.vw.length=24) (o:Op8 V (w.heap.size+1) vc vk vm vt LK d 0 p' k code st gc cc gk ck gs cs gr cr gv cv gO cO sr ct) (hb:gv≠bx) (j:Nat) (z:Int):∃ q d',d'.cores.length=d.cores.length∧EM w (V.setCell ⟨gv,j,none⟩ (.int .i64 z)) p s n c bx q d':=by
 have q:=h.mq.setW (j:=j) o.hx (by show _=_;rw [h24]) z
 have hs:=putK_sz (y:={ k with vw:=k.vw.set j z }) hk rfl (by simp)
 obtain ⟨q',hq⟩:=h.row (j:=j) o.bv hb q hs
 exact ⟨q',_,hs.2,hq⟩
end
section
set_option linter.unusedSimpArgs false
set_option linter.unusedVariables false
set_option maxRecDepth 100000
open Go.RowKit
theorem mach_c1 {d:MD} (h:machB d=true):∃ (x0:I5) (r0:List I5) (rest:List (List I5)),d.codes=(x0::r0)::rest:=by
 obtain ⟨k,code,st,ha⟩:=mach_at h (mach_k1 h)
 have h1:=ha.hc
 have h2:=ha.n1
 cases hd:d.codes with
 | nil=>rw [hd] at h1;simp at h1
 | cons a r=>
  rw [hd] at h1
  simp at h1
  subst h1
  cases a with
  | nil=>simp at h2
  | cons x0 r0=>exact ⟨x0,r0,r,rfl⟩
structure Cd8 (w V:World) (p:Nat) (s:Option Addr) (n c bx:Nat) (vc:Value) (vk vm vt:Value) (d:MD) (g cc gs cs:Nat) (x0:I5) (r0:List I5) (rest:List (List I5)):Prop where
 e:d.codes=(x0::r0)::rest
 ec:vc=.slice (some ⟨g,0,none⟩) (rest.length+1) cc
 c0:V.cell? ⟨g,0,none⟩=some (.slice (some ⟨gs,0,none⟩) (r0.length+1) cs)
 cs:r0.length+1≤cs
 fz:∀ j,V.frozen? ⟨g,j,none⟩=false
 z:g < V.heap.size
 lo:w.heap.size+1≤g
 ne:g≠bx
 fin:∀ (a:Option Addr) (c':Nat),(r0=[]∨a=some ⟨gs,5,none⟩)→∃ q d',EM w (V.setCell ⟨g,0,none⟩ (.slice a r0.length c')) p s n c bx q d'
set_option maxHeartbeats 1000000 in
theorem LM.cod {w V:World} {p n c bx:Nat} {s:Option Addr} {vc vk vm vt:Value} {LC:List CV} {LK:List KV} {S:List RS} {d:MD} (h:LM w V p s n c bx vc vk vm vt LC LK S d):∃ g cc gs cs x0 r0 rest,Cd8 w V p s n c bx vc vk vm vt d g cc gs cs x0 r0 rest:=by
 have hpw:=h.pw
 have hwb:=h.wb
 obtain ⟨x0,r0,rest,ed⟩:=mach_c1 h.ok
 have ec:=h.mq.ec
 rw [ed] at ec
 have hl:=congrArg List.length ec
 rw [List.length_map,List.length_cons] at hl
 have hrow:=h.mq.c.row
 rw [hl] at hrow
 obtain ⟨g,cc,hvc,-⟩:=World.ownsRow.form hrow (by omega)
 have hgz:=World.ownsRow.lt hrow g (by rw [hvc];rfl)
 have atC:∀ i l,((x0::r0)::rest)[i]? =some l→∃ v,V.cell? ⟨g,i,none⟩=some v∧OwnT5 V (w.heap.size+1) v l:=fun i l hi=>by
  rw [← ec,List.getElem?_map] at hi
  cases hy:LC[i]? with
  | none=>rw [hy] at hi;simp at hi
  | some y=>
   rw [hy] at hi
   simp at hi
   subst hi
   have hiL:=(List.getElem?_eq_some_iff.1 hy).1
   refine ⟨y.v,?_,h.mq.c.inn i y hy⟩
   have q:=hrow
   rw [hvc] at q
   rw [World.ownsRow.cellAt q i (by omega),List.getElem?_map,hy]
   rfl
 obtain ⟨v0,hc0,ho0⟩:=atC 0 _ rfl
 have ho0':=ho0
 unfold OwnT5 at ho0'
 obtain ⟨gs,cs,hv0,-⟩:=World.ownsRow.form ho0' (by simp)
 subst hv0
 have hcs:r0.length+1≤cs:=by
  rcases ho0'.2 with ⟨q,-⟩ | ⟨g',cap,cur,q,-,-,hcap,-⟩
  ·injection q with q;cases q
  ·injection q with _ _ q
   subst q
   exact hcap
 have hne:g≠bx:=fun e=>own_bx hrow (by decide) h.ty (by rw [hvc,e];rfl)
 refine ⟨g,cc,gs,cs,x0,r0,rest,ed,hvc,hc0,hcs,fun j=>?_,hgz.2,hgz.1,hne,fun a c' ha=>?_⟩
 ·have q:=hrow
  rw [hvc] at q
  exact World.ownsRow.frozenAt q j
 ·obtain ⟨V',hV'⟩:∃ V',V.setCell ⟨g,0,none⟩ (.slice a r0.length c')=V':=⟨_,rfl⟩
  have kb:∀ k,k≠g→V'.heap[k]? =V.heap[k]? :=fun k hk=>by rw [← hV'];exact Below.heap_setCell _ ⟨g,0,none⟩ _ k hk
  have sz:V'.heap.size=V.heap.size:=by rw [← hV'];simp
  have ne:∀ {e:TypeId} {size n:Nat} {u:Value} {xs:List Value},V.ownsRow (w.heap.size+1) e size u n xs→e≠102→∀ k,u.ownBlock=some k→V'.heap[k]? =V.heap[k]? :=fun hu he k hk=>kb k (fun e=>ownType' hu hrow he hk (by rw [hvc,e];rfl))
  have mq':MQ0 V' (w.heap.size+1) (.slice none 0 0) vk vm vt [] LK S { d with codes:=[] }:=by
   refine ⟨OwnC.nil _ _,rfl,⟨ownKeep' h.mq.k.row (ne h.mq.k.row (by decide)),fun i x hx=>⟨ownKeep' (h.mq.k.inn i x hx).1 (ne (h.mq.k.inn i x hx).1 (by decide)),ownKeep' (h.mq.k.inn i x hx).2 (ne (h.mq.k.inn i x hx).2 (by decide))⟩,h.mq.k.two,h.mq.k.sep⟩,h.mq.ek,⟨h.mq.m.n,ownKeep' h.mq.m.row (ne h.mq.m.row (by decide)),fun i' r l hr' hl=>?_,h.mq.m.d⟩,ownKeep' h.mq.t (ne h.mq.t (by decide)),h.mq.sk⟩
   have q:=h.mq.m.r i' r l hr' hl
   refine q.kept (ne q.own (by decide)) (fun a ha=>kb _ (fun e=>?_)) (by omega)
   exact absurd (TyB.ne (q.vt a ha) (own_ty hrow (by rw [hvc,e];rfl))) (by decide)
  obtain ⟨q,e1,e2,e3,e4,mo,-⟩:=mq'.mo
  have cs1:CsR V' (w.heap.size+1) V'.heap.size (some ⟨g,0,none⟩) (r0::rest):=by
   refine .inr ⟨g,0,rfl,hgz.1,by omega,fun i x hx=>?_⟩
   cases i with
   | zero=>
    simp at hx
    subst hx
    refine ⟨a,c',by rw [← hV'];exact World.cell?_setCell_same _ _ _ hc0,ha.elim .inl (fun ha=>.inr ⟨gs,5,ha,(World.ownsRow.lt ho0 gs rfl).1,by rw [sz];exact (World.ownsRow.lt ho0 gs rfl).2,fun i hi=>?_⟩)⟩
    have hgs:gs≠g:=fun e=>ownType' ho0' hrow (by decide) rfl (by rw [hvc,e];rfl)
    have e:=fl5_at (x0::r0) (i+1) (r0.getD i z5) (by rw [List.getElem?_cons_succ,List.getD_eq_getElem?_getD,List.getElem?_eq_getElem hi];rfl)
    have q5:∀ j,j < 5→V'.cell? ⟨gs,(i+1) * 5+j,none⟩=((fl5 (x0::r0)).map (Value.int .i64))[(i+1) * 5+j]? :=fun j hj=>by
     rw [World.cell?_of_block (w:=V) (kb gs hgs)]
     exact World.ownsRow.cellAt ho0' _ (by simp;omega)
    have sh:5+i * 5=(i+1) * 5:=by omega
    rw [sh]
    obtain ⟨e0,e1,e2,e3,e4⟩:=e
    refine ⟨?_,?_,?_,?_,?_⟩
    ·have q:=q5 0 (by omega)
     rw [Nat.add_zero,List.getElem?_map,e0] at q
     exact q
    ·rw [q5 1 (by omega),List.getElem?_map,e1];rfl
    ·rw [q5 2 (by omega),List.getElem?_map,e2];rfl
    ·rw [q5 3 (by omega),List.getElem?_map,e3];rfl
    ·rw [q5 4 (by omega),List.getElem?_map,e4];rfl
   | succ i=>
    obtain ⟨v,hc,ho⟩:=atC (i+1) x (by simpa using hx)
    obtain ⟨su,cu,rfl⟩:=ownSl ho
    have ho':OwnT5 V' (w.heap.size+1) (.slice su x.length cu) x:=ownKeep' ho (ne ho (by decide))
    obtain ⟨s2,c2,ev,vo⟩:=own_vo (n:=x.length) (size:=5) (l:=fl5 x) ho' (fl5_len x)
    injection ev with ev1 _ ev3
    subst ev1 ev3
    refine ⟨su,cu,?_,vo.insR⟩
    rw [← hV']
    exact (World.cell?_setCell_other _ ⟨g,0,none⟩ ⟨g,0+(i+1),none⟩ _ (by simp)).trans (by rw [Nat.zero_add];exact hc)
  have hszd:=h.sz
  refine ⟨{ q with s1:=some ⟨g,0,none⟩,c1:=cc },{ d with codes:=r0::rest },?_⟩
  rw [hV']
  have hx:X4 V' bx vc vk vm vt:=by rw [← hV'];exact h.x.off (Ne.symm hne)
  refine ⟨?_,⟨cs1,?_,?_,?_⟩,?_,(mach_k4 h.ok:d.cores.length≤4),by rw [← hV'];exact h.cb.set (a:=⟨g,0,none⟩) (by show p < g;omega),by rw [← hV'];exact but_at h.bt (by omega),by rw [← hV'];exact h.r.off (by omega),hpw,hwb⟩
  ·have e1':vc=.slice (some ⟨g,0,none⟩) (r0::rest).length cc:=hvc
   rw [e1',e2,e3,e4] at hx
   exact hx
  ·exact mo.ma.2.1
  ·exact mo.ma.2.2.1
  ·exact mo.ma.2.2.2
  ·show MaSz { d with codes:=r0::rest }≤21000
   unfold MaSz at hszd ⊢
   rw [ed] at hszd
   simp only [szC,List.length_cons] at hszd ⊢
   omega
theorem Cd8.up {w V V':World} {p n c bx g cc gs cs:Nat} {s:Option Addr} {vc vk vm vt:Value} {LC:List CV} {LK:List KV} {S:List RS} {d:MD} {x0:I5} {r0:List I5} {rest:List (List I5)} (h:Cd8 w V p s n c bx vc vk vm vt d g cc gs cs x0 r0 rest) (l:LM w V' p s n c bx vc vk vm vt LC LK S d) (hb:But p V V'):Cd8 w V' p s n c bx vc vk vm vt d g cc gs cs x0 r0 rest:=by
 obtain ⟨g',cc',gs',cs',x0',r0',rest',h'⟩:=l.cod
 have ed:=h.e.symm.trans h'.e
 injection ed with ed1 ed2
 injection ed1 with ed0 ed1
 subst ed0 ed1 ed2
 have ec:=h.ec.symm.trans h'.ec
 injection ec with ec _ ec2
 injection ec with ec
 injection ec with ec
 subst ec ec2
 have hpw:=l.pw
 have hlo:=h.lo
 have c0:=(hb.cell (p:=⟨g,0,none⟩) h.z (by show g≠p;omega)).trans h.c0
 rw [h'.c0] at c0
 injection c0 with c0
 injection c0 with c0 _ c1
 injection c0 with c0
 injection c0 with c0
 subst c0 c1
 exact h'
/- a note more -/
theorem LM.trc {w V V':World} {p n c bx g cap:Nat} {s:Option Addr} {vc vk vm vt:Value} {LC:List CV} {LK:List KV} {S:List RS} {d:MD} (h:LM w V p s n c bx vc vk vm vt LC LK S d) (nt:ND) (ho:V'.ownsRow (w.heap.size+1) 105 2 (.slice (some ⟨g,0,none⟩) (d.tr.length+1) cap) (d.tr.length+1) (flatN d.tr++[.int .i64 nt.who,.int .i64 nt.v])) (hb:∀ b,b < V.heap.size→vt.ownBlock≠some b→V'.heap[b]? =V.heap[b]?) (hs:V.heap.size≤V'.heap.size) (hcb:CB V' p s n c) (hbt:But p w V'):∃ q d',EM w (V'.setCell ⟨bx,3,none⟩ (.slice (some ⟨g,0,none⟩) (d.tr.length+1) cap)) p s n c bx q d':=by
 have hpw:=h.pw
 have hwb:=h.wb
 have hsz:=h.sz
 have hk4:=mach_k4 h.ok
 have hbz:=h.x.x.z
 have hbx:vt.ownBlock≠some bx:=own_bx h.mq.t (by decide) h.ty
 have ty':BxT V' bx:=h.ty.same (hb bx hbz hbx)
 have mq':=(h.mq.note nt ho hb hs).offB (j:=3) (u:=.slice (some ⟨g,0,none⟩) (d.tr.length+1) cap) ty'
 have x':=(h.x.blk (hb bx hbz hbx) hs).set3 (u:=.slice (some ⟨g,0,none⟩) (d.tr.length+1) cap)
 have e:∀ q,vt.ownBlock=some q→w.heap.size+1≤q:=fun q hq=>(World.ownsRow.lt h.mq.t q hq).1
 have r:=em_of x' mq' ?_ hk4 (hcb.set (a:=⟨bx,3,none⟩) (by show p < bx;omega)) (but_at hbt (by omega)) ((h.r.blk (hb _ (by omega) (fun e'=>by have:=e _ e';omega)) hs).off (by omega)) hpw hwb
 ·obtain ⟨q,hq⟩:=r
  exact ⟨q,_,hq⟩
 show d.codes.length+szC d.codes+(d.cores.length+szK d.cores)+(d.mem.length+szR d.mem)+(d.tr++[nt]).length≤21000
 unfold MaSz at hsz
 rw [List.length_append,List.length_singleton]
 omega
end
end Go.Proofs.YtlbeploopclegaaGreat
