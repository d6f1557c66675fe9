/- A machine that runs may be marked: its places are apart; what its memory reads is apart from its cores. No condition. A machine that runs, opened at the core that goes on; the boxes of a step. No condition. What steps of both sides end with. No condition. A region that draws its order: first operations that only read, as long as the world stays in a class; then such as keep the class, one behind the other; then such as wait for all that was read. One walk, in the order of the text. No condition. -/
import Derived.Test.YtlbeploopclegaaGreatQG00
import Derived.Test.YtlbeploopclegaaGreatQG05
import Derived.Test.YtlbeploopclegaaGreatQG01
import Derived.Test.YtlbeploopclegaaGreatQG04
import Derived.Test.YtlbeploopclegaaGreatQG10
import Derived.Test.YtlbeploopclegaaGreatQG02
import Derived.Test.YtlbeploopclegaaGreatQG11
import Derived.Test.YtlbeploopclegaaGreatQG08
import Derived.OrdersHeld
namespace Go.Proofs.YtlbeploopclegaaGreat
section
set_option linter.unusedSimpArgs false
set_option linter.unusedVariables false
set_option maxRecDepth 100000
open Go.RowKit
theorem OwnC.go' {w:World} {base:Nat} {v:Value} {L:List CV} (h:OwnC w base v L):∃ s c R,v=.slice s L.length c∧GO w base w.heap.size s TC R (L.map fun x=>codeV x.l)∧∀ a∈gAs s TC.length R 0,∃ (i:Nat) (x:CV),L[i]? =some x∧x.v.ownBlock=some a.block:=by
 rcases Nat.eq_zero_or_pos L.length with h0 | hpos
 ·obtain ⟨s,c,e⟩:=ownSl h.row
  rw [List.length_eq_zero_iff.1 h0]
  rw [h0] at e
  exact ⟨s,c,[],e,GO.nil _ _ _ _ _,fun a ha=>by simp [gAs] at ha⟩
 obtain ⟨g,cap,e,-⟩:=World.ownsRow.form h.row hpos
 have hlt:=World.ownsRow.lt h.row g (by rw [e];rfl)
 have hrow:=h.row
 rw [e] at hrow
 have step:∀ k,k≤L.length→∃ R,GO w base w.heap.size (some ⟨g,0,none⟩) TC R ((L.take k).map fun x=>codeV x.l)∧∀ a∈gAs (some ⟨g,0,none⟩) TC.length R 0,∃ (i:Nat) (x:CV),i < k∧L[i]? =some x∧x.v.ownBlock=some a.block:=by
  intro k
  induction k with
  | zero=>intro _;exact ⟨[],GO.nil _ _ _ _ _,fun a ha=>by simp [gAs] at ha⟩
  | succ k ih=>
   intro hk
   obtain ⟨R,hR,hA⟩:=ih (by omega)
   obtain ⟨x,hx⟩:∃ x,L[k]? =some x:=⟨_,List.getElem?_eq_getElem (by omega)⟩
   obtain ⟨s,c,ev,vo⟩:=own_vo (h.inn k x hx) (fl5_len x.l)
   have tl:((L.take k).map fun x=>codeV x.l).length=k:=by simp;omega
   have ow:∀ a∈vAs ((⟨s,x.l.length,c⟩:VS).wide 5),x.v.ownBlock=some a.block:=fun a ha=>by rw [ev];exact vo.own ha
   refine ⟨R++[[.r ⟨s,x.l.length,c⟩ 5]],?_,fun a ha=>?_⟩
   ·have et:(L.take (k+1)).map (fun x=>codeV x.l)=(L.take k).map (fun x=>codeV x.l)++[codeV x.l]:=by rw [List.take_add_one,hx];simp
    rw [et]
    refine GO.push _ _ hR ⟨_,_,rfl⟩ rfl rfl (fun _ _ _ _ _ _ _ _ _ _ hf=>hf) (fun j f u hf hu=>?_) (fun x' e' hx' a ha g' o' hg'=>?_) ?_ (fun a ha ha'=>?_)
    ·match j,hf,hu with
     | 0,hf,hu=>
      simp at hf
      simp [codeV] at hu
      subst hf hu
      rw [tl]
      refine ⟨?_,⟨hlt.1,hlt.2⟩,vo⟩
      have q:=World.ownsRow.cellAt hrow k (by omega)
      rw [List.getElem?_map,hx] at q
      simp only [Option.map_some] at q
      rw [ev] at q
      simpa [adr,TC] using q
    ·simp at hx'
     obtain ⟨rfl,rfl⟩:=hx'
     injection hg' with hg'
     injection hg' with hg'
     intro eb
     refine ownType' (h.inn k x hx) hrow (by decide) (ow a ha) ?_
     rw [eb,← hg']
     rfl
    ·simp only [recAs,fAs,List.append_nil]
     exact vo.nodup
    ·simp only [recAs,fAs,List.append_nil] at ha'
     obtain ⟨i,z,hi,hz,hb⟩:=hA a ha
     exact h.sep i k z x _ hz hx (by omega) hb (ow a ha')
   ·rw [gAs_append] at ha
    rcases List.mem_append.1 ha with ha | ha
    ·obtain ⟨i,z,hi,hz,hb⟩:=hA a ha
     exact ⟨i,z,by omega,hz,hb⟩
    ·simp only [gAs,recAs,fAs,List.append_nil] at ha
     exact ⟨k,x,by omega,hx,ow a ha⟩
 obtain ⟨R,hR,hA⟩:=step L.length (Nat.le_refl _)
 rw [List.take_length] at hR
 exact ⟨some ⟨g,0,none⟩,cap,R,e,hR,fun a ha=>by obtain ⟨i,x,-,h1,h2⟩:=hA a ha;exact ⟨i,x,h1,h2⟩⟩
def TyB (w:World) (b:Nat) (t:TypeId):Prop:=∃ cs f,w.heap[b]? =some (.cells cs t f)
theorem TyB.ne {w:World} {b:Nat} {t t':TypeId} (h:TyB w b t) (h':TyB w b t'):t=t':=by
 obtain ⟨cs,f,c⟩:=h
 obtain ⟨cs',f',c'⟩:=h'
 rw [c] at c'
 injection c' with c'
 injection c' with _ c'
theorem OW.ty {w:World} {B:Nat} {v:Value} {S:List RS} {m:List (List WD)} (h:OW w B v S m) {a:Addr} (ha:a∈mAs S):TyB w a.block 99∨TyB w a.block 3:=by
 obtain ⟨r,hr,har⟩:=mem_mAs.1 ha
 obtain ⟨i,hi,e⟩:=List.getElem_of_mem hr
 have hr':S[i]? =some r:=by rw [List.getElem?_eq_getElem hi,e]
 obtain ⟨l,hl⟩:=at_same h.n.symm hr'
 have q:=h.r i r l hr' hl
 rcases mem_rAs.1 har with ⟨j,hj,rfl⟩ | ⟨x,hx,hax⟩
 ·left
  rcases q.ro.c with e0 | ⟨g,o,es,-⟩
  ·have:=q.n
   rw [e0] at this
   simp at this
   rw [this] at hj
   simp at hj
  ·rw [es]
   exact own_ty q.own (by rw [RS.val,es];rfl)
 ·right
  exact q.vt a (mem_vsA.2 ⟨x,hx,hax⟩)
theorem MQ0.mo {w:World} {B:Nat} {vc vk vm vt:Value} {LC:List CV} {LK:List KV} {S:List RS} {d:MD} (h:MQ0 w B vc vk vm vt LC LK S d):∃ p:MP,vc=.slice p.s1 d.codes.length p.c1∧vk=.slice p.s2 d.cores.length p.c2∧vm=.slice p.s3 d.mem.length p.c3∧vt=.slice p.s4 d.tr.length p.c4∧MaO w B w.heap.size p d∧∀ (P:Nat→Prop),HitQ P vc vk vm vt LC LK S→∀ a∈p.as d,P a.block:=by
 obtain ⟨s1,c1,RC,e1,g1,a1⟩:=h.c.go'
 obtain ⟨s2,c2,RK,e2,g2,a2⟩:=h.k.go
 obtain ⟨s3,c3,e3,m3⟩:=h.m.om.mo
 obtain ⟨s4,c4,e4⟩:=ownSl h.t
 have l1:LC.length=d.codes.length:=by have:=congrArg List.length h.ec;simpa using this
 have l2:LK.length=d.cores.length:=by have:=congrArg List.length h.ek;simpa using this
 have q1:GO w B w.heap.size s1 TC RC (d.codes.map codeV):=by
  rw [← h.ec,List.map_map]
  exact g1
 have q2:GO w B w.heap.size s2 TK RK (d.cores.map coreV):=by
  rw [← h.ek,List.map_map]
  exact g2
 have ht:=h.t
 rw [e4] at ht
 have v4:=OwnD.vo ht rfl
 rw [l1] at e1
 rw [l2] at e2
 have t1:∀ a∈gAs s1 TC.length RC 0,TyB w a.block 141:=fun a ha=>by
  obtain ⟨i,x,hx,hb⟩:=a1 a ha
  exact own_ty (h.c.inn i x hx) hb
 have t2:∀ a∈gAs s2 TK.length RK 0,TyB w a.block 53∨(TyB w a.block 3∧∀ b∈mAs S,b.block≠a.block):=fun a ha=>by
  rcases a2 a ha with hb | ⟨i,x,hx,hb⟩
  ·exact .inl (own_ty h.k.row hb)
  ·refine .inr ⟨?_,fun b hb'=>h.sk i x _ hx hb b hb'⟩
   rcases hb with hb | hb
   ·exact own_ty (h.k.inn i x hx).1 hb
   ·exact own_ty (h.k.inn i x hx).2 hb
 have t4:∀ a∈vAs ((⟨s4,d.tr.length,c4⟩:VS).wide 2),TyB w a.block 105:=fun a ha=>own_ty ht (v4.own ha)
 refine ⟨⟨s1,c1,RC,s2,c2,RK,s3,c3,S,s4,c4⟩,e1,e2,e3,e4,⟨q1,q2,m3,v4,?_⟩,fun P hP a ha=>?_⟩
 unfold MP.as
 refine List.nodup_append.2 ⟨q1.d,List.nodup_append.2 ⟨q2.d,List.nodup_append.2 ⟨m3.d,v4.nodup,fun a ha b hb e=>?_⟩,fun a ha b hb e=>?_⟩,fun a ha b hb e=>?_⟩
 ·subst e
  rcases h.m.ty ha with q | q
  ·exact absurd (q.ne (t4 a hb)) (by decide)
  ·exact absurd (q.ne (t4 a hb)) (by decide)
 ·subst e
  rcases List.mem_append.1 hb with hb | hb
  ·rcases t2 a ha with q | ⟨q,hs⟩
   ·rcases h.m.ty hb with q' | q'
    ·exact absurd (q.ne q') (by decide)
    ·exact absurd (q.ne q') (by decide)
   ·exact hs a hb rfl
  ·rcases t2 a ha with q | ⟨q,-⟩
   ·exact absurd (q.ne (t4 a hb)) (by decide)
   ·exact absurd (q.ne (t4 a hb)) (by decide)
 ·subst e
  have q:=t1 a ha
  rcases List.mem_append.1 hb with hb | hb
  ·rcases t2 a hb with q' | ⟨q',-⟩
   ·exact absurd (q.ne q') (by decide)
   ·exact absurd (q.ne q') (by decide)
  ·rcases List.mem_append.1 hb with hb | hb
   ·rcases h.m.ty hb with q' | q'
    ·exact absurd (q.ne q') (by decide)
    ·exact absurd (q.ne q') (by decide)
   ·exact absurd (q.ne (t4 a hb)) (by decide)
 ·unfold MP.as at ha
  rcases List.mem_append.1 ha with ha | ha
  ·obtain ⟨i,x,hx,hb⟩:=a1 a ha
   exact hP.ci i x _ hx hb
  rcases List.mem_append.1 ha with ha | ha
  ·rcases a2 a ha with hb | ⟨i,x,hx,hb⟩
   ·exact hP.k _ hb
   ·exact hP.ki i x _ hx hb
  rcases List.mem_append.1 ha with ha | ha
  ·exact hP.mi a ha
  ·exact hP.t _ (by rw [e4];exact v4.own ha)
/- what a memory that is owned reads does not lie in a row of integers apart from its views -/
theorem OW.av {w:World} {B n c g:Nat} {s:Option Addr} {S:List RS} {m:List (List WD)} (h:OW w B (.slice s n c) S m) (ht:TyB w g 3) (hs:∀ a∈mAs S,a.block≠g):MemAv w s m g:=by
 intro gm om e
 subst e
 refine ⟨fun e=>?_,fun k gr or_ n1 c1 hk hc hn=>?_⟩
 ·subst e
  exact absurd (TyB.ne ht (own_ty h.row rfl)) (by decide)
 ·have om0:om=0:=by
   rcases h.row.2 with ⟨q,-⟩ | ⟨g',cap,cur,q,-⟩
   ·injection q with q;cases q
   ·injection q with q;injection q with q;injection q with _ q
  subst om0
  have hkS:k < S.length:=by have:=h.n;omega
  obtain ⟨r,hr⟩:∃ r,S[k]? =some r:=⟨_,List.getElem?_eq_getElem hkS⟩
  obtain ⟨l,hl⟩:∃ l,m[k]? =some l:=⟨_,List.getElem?_eq_getElem hk⟩
  have hrow:=h.row
  rcases hrow.2 with ⟨q,-⟩ | ⟨g',cap,cur,q,-⟩
  ·injection q with q;cases q
  injection q with q1 q2 q3
  subst q2
  have cc:=World.ownsRow.cellAt hrow k (by omega)
  rw [List.getElem?_map,hr] at cc
  rw [Nat.zero_add,cc] at hc
  have hc':r.val=.slice (some ⟨gr,or_,none⟩) n1 c1:=by simpa using hc
  unfold RS.val at hc'
  injection hc' with e1 e2 e3
  have q:=h.r k r l hr hl
  have hb:r.val.ownBlock=some gr:=by unfold RS.val;rw [e1];rfl
  refine ⟨fun e=>?_,fun j g2 o2 n2 c2 hj hcj hn2 e=>?_⟩
  ·subst e
   exact absurd (TyB.ne ht (own_ty q.own hb)) (by decide)
  ·have hjr:j < r.vs.length:=by omega
   obtain ⟨x,hx⟩:∃ x,r.vs[j]? =some x:=⟨_,List.getElem?_eq_getElem hjr⟩
   obtain ⟨y,hy⟩:=at_same q.n.symm hx
   rcases q.ro.c with e0 | ⟨g3,o3,es,-,-,hcc⟩
   ·rw [e0] at hy
    simp at hy
   ·obtain ⟨-,-,hv⟩:=hcc j x y hx hy
    rw [es] at e1
    injection e1 with e1
    injection e1 with e4 e5
    subst e4 e5
    rw [hv] at hcj
    injection hcj with hcj
    injection hcj with f1 f2 f3
    have hm:(⟨g2,o2,none⟩:Addr)∈vAs x:=mem_vAs.2 ⟨0,by omega,by rw [f1];rfl⟩
    have:=hs ⟨g2,o2,none⟩ (mem_mAs.2 ⟨r,List.mem_of_getElem? hr,mem_rAs.2 (.inr ⟨x,List.mem_of_getElem? hx,hm⟩)⟩)
    exact this e
end
section
set_option linter.unusedSimpArgs false
set_option linter.unusedVariables false
set_option maxRecDepth 100000
open Go.RowKit
structure Op8 (w:World) (B:Nat) (vc vk vm vt:Value) (LK:List KV) (d:MD) (who p:Nat) (k:KD) (code:List I5) (s:I5) (gc cc gk ck gs cs gr cr gv cv gO cO:Nat) (st:Option Addr) (ct:Nat):Prop where
 ec:vc=.slice (some ⟨gc,0,none⟩) d.codes.length cc
 ek:vk=.slice (some ⟨gk,0,none⟩) LK.length ck
 em:vm=.slice (some ⟨gO,0,none⟩) d.mem.length cO
 et:vt=.slice st d.tr.length ct
 hx:LK[who]? =some ⟨k,.slice (some ⟨gr,0,none⟩) 8 cr,.slice (some ⟨gv,0,none⟩) 24 cv⟩
 hp:k.pc=p
 wc:who < d.codes.length
 wk:who < LK.length
 c0:w.cell? ⟨gc,who,none⟩=some (.slice (some ⟨gs,0,none⟩) code.length cs)
 k0:w.cell? ⟨gk,who * 4,none⟩=some (.int .i64 k.pc)
 k1:w.cell? ⟨gk,who * 4+1,none⟩=some (.slice (some ⟨gr,0,none⟩) 8 cr)
 k2:w.cell? ⟨gk,who * 4+2,none⟩=some (.slice (some ⟨gv,0,none⟩) 24 cv)
 k3:w.cell? ⟨gk,who * 4+3,none⟩=some (.int .i64 k.st)
 s0:w.cell? ⟨gs,p * 5,none⟩=some (.int .i64 s.o)
 s1:w.cell? ⟨gs,p * 5+1,none⟩=some (.int .i64 s.r)
 s2:w.cell? ⟨gs,p * 5+2,none⟩=some (.int .i64 s.a)
 s3:w.cell? ⟨gs,p * 5+3,none⟩=some (.int .i64 s.b)
 s4:w.cell? ⟨gs,p * 5+4,none⟩=some (.int .i64 s.n)
 r:∀ i,i < 8→w.cell? ⟨gr,i,none⟩=some (.int .i64 (k.regs.getD i 0))
 fk:∀ j,w.frozen? ⟨gk,j,none⟩=false
 fr:∀ j,w.frozen? ⟨gr,j,none⟩=false
 zc:gc < w.heap.size
 zk:gk < w.heap.size
 zs:gs < w.heap.size
 zr:gr < w.heap.size
 zv:gv < w.heap.size
 zO:gO < w.heap.size
 bk:B≤gk
 br:B≤gr
 bv:B≤gv
 bO:B≤gO
theorem MQ0.open {w : World} {B : Nat} {vc vk vm vt : Value} {LC : List CV} {LK : List KV} {S : List RS} {d : MD} {who : Nat} {k : KD} {code : List I5} {s : I5} (h : MQ0 w B vc vk vm vt LC LK S d) (ha : At8 d who k code s) :
  ∃ p gc cc gk ck gs cs gr cr gv cv gO cO st ct,Op8 w B vc vk vm vt LK d who p k code s gc cc gk ck gs cs gr cr gv cv gO cO st ct:=by
 have hp0:=ha.pc0
 have hpl:=ha.pcl
 have hn1:=ha.n1
 obtain ⟨p,hp⟩:∃ p:Nat,k.pc=p:=⟨k.pc.toNat,by omega⟩
 have wcl:who < d.codes.length:=(List.getElem?_eq_some_iff.1 ha.hc).1
 have wkl:who < d.cores.length:=(List.getElem?_eq_some_iff.1 ha.hk).1
 have lc:LC.length=d.codes.length:=by rw [← h.ec,List.length_map]
 have lk:LK.length=d.cores.length:=by rw [← h.ek,List.length_map]
 obtain ⟨x,hx⟩:∃ x,LK[who]? =some x:=⟨_,List.getElem?_eq_getElem (by omega)⟩
 have ex:x.d=k:=by
  have q:=ha.hk
  rw [← h.ek,List.getElem?_map,hx] at q
  simpa using q
 obtain ⟨y,hy⟩:∃ y,LC[who]? =some y:=⟨_,List.getElem?_eq_getElem (by omega)⟩
 have ey:y.l=code:=by
  have q:=ha.hc
  rw [← h.ec,List.getElem?_map,hy] at q
  simpa using q
 have hrk:=h.k.row
 have hrc:=h.c.row
 rw [lc] at hrc
 obtain ⟨gc,cc,hvc,-⟩:=World.ownsRow.form hrc (by omega)
 obtain ⟨gk,ck,hvk,-⟩:=World.ownsRow.form hrk (by omega)
 subst hvc
 subst hvk
 have ho:=h.c.inn who y hy
 unfold OwnT5 at ho
 rw [ey] at ho
 obtain ⟨gs,cs,hvs,-⟩:=World.ownsRow.form ho (by omega)
 have ho':=ho
 rw [hvs] at ho'
 obtain ⟨hr1,hr2⟩:=h.k.inn who x hx
 rw [ex] at hr1 hr2
 have hr8:=ha.regs
 have hv24:k.vw.length=24:=by
  have q:=ha.vw
  rw [viewB_iff] at q
  have m:=(memB_at ha.mem (i:=0) (by omega)).1
  omega
 obtain ⟨gr,cr,hvr,-⟩:=World.ownsRow.form hr1 (by omega)
 obtain ⟨gv,cv,hvv,-⟩:=World.ownsRow.form hr2 (by omega)
 have hr1':=hr1
 have hr2':=hr2
 unfold OwnN at hr1' hr2'
 rw [hvr] at hr1'
 rw [hvv] at hr2'
 have m24:=(memB_at ha.mem (i:=0) (by omega)).1
 have hrm:=h.m.row
 rw [h.m.n] at hrm
 obtain ⟨gO,cO,hvO,-⟩:=World.ownsRow.form hrm (by omega)
 obtain ⟨st,ct,hvt⟩:=ownSl h.t
 obtain ⟨f0,f1,f2,f3⟩:=flatK_at LK who x hx
 rw [hvO] at hrm
 obtain ⟨e0,e1,e2,e3,e4⟩:=fl5_at code p s (by have q:=ha.hs;rw [hp,Int.toNat_natCast] at q;exact q)
 have q5:∀ j,j < 5→w.cell? ⟨gs,p * 5+j,none⟩=((fl5 code).map (Value.int .i64))[p * 5+j]? :=fun j hj=>World.ownsRow.cellAt ho' _ (by omega)
 rw [hr8] at hvr hr1'
 rw [hv24] at hvv hr2'
 refine ⟨p,gc,cc,gk,ck,gs,cs,gr,cr,gv,cv,gO,cO,st,ct,rfl,rfl,hvO,hvt,?_,hp,wcl,by omega,?_,?_,?_,?_,?_,?_,?_,?_,?_,?_,?_,fun j=>World.ownsRow.frozenAt hrk j,fun j=>World.ownsRow.frozenAt hr1' j,(World.ownsRow.lt hrc gc rfl).2,(World.ownsRow.lt hrk gk rfl).2,(World.ownsRow.lt ho' gs rfl).2,(World.ownsRow.lt hr1' gr rfl).2,(World.ownsRow.lt hr2' gv rfl).2,(World.ownsRow.lt hrm gO rfl).2,(World.ownsRow.lt hrk gk rfl).1,(World.ownsRow.lt hr1' gr rfl).1,(World.ownsRow.lt hr2' gv rfl).1,(World.ownsRow.lt hrm gO rfl).1⟩
 ·rw [hx,← ex,← hvr,← hvv]
 ·rw [World.ownsRow.cellAt hrc _ (by omega),List.getElem?_map,hy,← hvs];rfl
 ·rw [World.ownsRow.cellAt hrk _ (by omega),f0,ex]
 ·rw [World.ownsRow.cellAt hrk _ (by omega),f1,hvr]
 ·rw [World.ownsRow.cellAt hrk _ (by omega),f2,hvv]
 ·rw [World.ownsRow.cellAt hrk _ (by omega),f3,ex]
 ·have q:=q5 0 (by omega)
  rw [Nat.add_zero,List.getElem?_map,e0] at q
  exact q
 ·rw [q5 1 (by omega),List.getElem?_map,e1];rfl
 ·rw [q5 2 (by omega),List.getElem?_map,e2];rfl
 ·rw [q5 3 (by omega),List.getElem?_map,e3];rfl
 ·rw [q5 4 (by omega),List.getElem?_map,e4];rfl
 ·intro i hi
  rw [hvr,← hr8] at hr1
  exact OwnN.cell hr1 (by omega)
/- the boxes of a step: machine, pick, answer, core, step -/
structure Bx5 (V:World) (z:Nat) (m0 m1 m2 m3 x0 x1 k0 k1 k2 k3 s0 s1 s2 s3 s4:Value):Prop where
 m0:V.cell? ⟨z,0,none⟩=some m0
 m1:V.cell? ⟨z,1,none⟩=some m1
 m2:V.cell? ⟨z,2,none⟩=some m2
 m3:V.cell? ⟨z,3,none⟩=some m3
 x0:V.cell? ⟨z+1,0,none⟩=some x0
 x1:V.cell? ⟨z+1,1,none⟩=some x1
 a0:V.cell? ⟨z+1+1,0,none⟩=some (.slice none 0 0)
 a1:V.cell? ⟨z+1+1,1,none⟩=some (.slice none 0 0)
 a2:V.cell? ⟨z+1+1,2,none⟩=some (.slice none 0 0)
 a3:V.cell? ⟨z+1+1,3,none⟩=some (.slice none 0 0)
 k0:V.cell? ⟨z+1+1+1,0,none⟩=some k0
 k1:V.cell? ⟨z+1+1+1,1,none⟩=some k1
 k2:V.cell? ⟨z+1+1+1,2,none⟩=some k2
 k3:V.cell? ⟨z+1+1+1,3,none⟩=some k3
 s0:V.cell? ⟨z+1+1+1+1,0,none⟩=some s0
 s1:V.cell? ⟨z+1+1+1+1,1,none⟩=some s1
 s2:V.cell? ⟨z+1+1+1+1,2,none⟩=some s2
 s3:V.cell? ⟨z+1+1+1+1,3,none⟩=some s3
 s4:V.cell? ⟨z+1+1+1+1,4,none⟩=some s4
 fm:∀ j,V.frozen? ⟨z,j,none⟩=false
 fa:∀ j,V.frozen? ⟨z+1+1,j,none⟩=false
 z:z+1+1+1+1 < V.heap.size
theorem Bx5.keep {V V':World} {z:Nat} {m0 m1 m2 m3 x0 x1 k0 k1 k2 k3 s0 s1 s2 s3 s4:Value} (h:Bx5 V z m0 m1 m2 m3 x0 x1 k0 k1 k2 k3 s0 s1 s2 s3 s4) (hb:∀ b,z≤b→b < V.heap.size→V'.heap[b]? =V.heap[b]?) (hs:V.heap.size≤V'.heap.size):Bx5 V' z m0 m1 m2 m3 x0 x1 k0 k1 k2 k3 s0 s1 s2 s3 s4:=by
 have hz:=h.z
 have c0:∀ j,V'.cell? ⟨z,j,none⟩=V.cell? ⟨z,j,none⟩:=fun j=>World.cell?_of_block (hb z (by omega) (by omega))
 have c1:∀ j,V'.cell? ⟨z+1,j,none⟩=V.cell? ⟨z+1,j,none⟩:=fun j=>World.cell?_of_block (hb (z+1) (by omega) (by omega))
 have c2:∀ j,V'.cell? ⟨z+1+1,j,none⟩=V.cell? ⟨z+1+1,j,none⟩:=fun j=>World.cell?_of_block (hb (z+1+1) (by omega) (by omega))
 have c3:∀ j,V'.cell? ⟨z+1+1+1,j,none⟩=V.cell? ⟨z+1+1+1,j,none⟩:=fun j=>World.cell?_of_block (hb (z+1+1+1) (by omega) (by omega))
 have c4:∀ j,V'.cell? ⟨z+1+1+1+1,j,none⟩=V.cell? ⟨z+1+1+1+1,j,none⟩:=fun j=>World.cell?_of_block (hb (z+1+1+1+1) (by omega) (by omega))
 exact ⟨(c0 _).trans h.m0,(c0 _).trans h.m1,(c0 _).trans h.m2,(c0 _).trans h.m3,(c1 _).trans h.x0,(c1 _).trans h.x1,(c2 _).trans h.a0,(c2 _).trans h.a1,(c2 _).trans h.a2,(c2 _).trans h.a3,(c3 _).trans h.k0,(c3 _).trans h.k1,(c3 _).trans h.k2,(c3 _).trans h.k3,(c4 _).trans h.s0,(c4 _).trans h.s1,(c4 _).trans h.s2,(c4 _).trans h.s3,(c4 _).trans h.s4,fun j=>(World.frozen?_of_block (hb z (by omega) (by omega))).trans (h.fm j),fun j=>(World.frozen?_of_block (hb (z+1+1) (by omega) (by omega))).trans (h.fa j),by omega⟩
theorem boxes5 {w W V : World} {m0 m1 m2 m3 x0 x1 k0 k1 k2 k3 s0 s1 s2 s3 s4 : Value} {T0 T1 T2 T3 T4 : TypeId}
  (hW:(((w.alloc (.cells #[m0,m1,m2,m3] T0)).alloc (.cells #[x0,x1] T1)).alloc (.cells #[.slice none 0 0,.slice none 0 0,.slice none 0 0,.slice none 0 0] T2)).alloc (.cells #[k0,k1,k2,k3] T3)=W) (hV:(W.alloc (.cells #[s0,s1,s2,s3,s4] T4)).drew=V):
  Bx5 V w.heap.size m0 m1 m2 m3 x0 x1 k0 k1 k2 k3 s0 s1 s2 s3 s4∧Below w.heap.size w V:=by
 have zW:W.heap.size=w.heap.size+1+1+1+1:=by subst hW;simp
 have kW:Below w.heap.size w W:=by
  subst hW
  exact ((((Below.refl _ _).alloc (Nat.le_refl _) _).alloc (by simp) _).alloc (by simp;omega) _).alloc (by simp;omega) _
 have kV:Below W.heap.size W V:=by subst hV;exact Below.drew ((Below.refl _ _).alloc (Nat.le_refl _) _)
 have cV:∀ b j,b < W.heap.size→V.cell? ⟨b,j,none⟩=W.cell? ⟨b,j,none⟩:=fun b j hb=>kV.cell (p:=⟨b,j,none⟩) hb
 have fV:∀ b j,b < W.heap.size→V.frozen? ⟨b,j,none⟩=W.frozen? ⟨b,j,none⟩:=fun b j hb=>kV.frozen (p:=⟨b,j,none⟩) hb
 refine ⟨⟨?_,?_,?_,?_,?_,?_,?_,?_,?_,?_,?_,?_,?_,?_,?_,?_,?_,?_,?_,fun j=>?_,fun j=>?_,?_⟩,kW.trans (kV.mono (by omega))⟩
 any_goals (refine (cV _ _ (by omega)).trans ?_;subst hW;simp [go_sem];done)
 any_goals (refine (fV _ _ (by omega)).trans ?_;subst hW;simp [go_sem];done)
 any_goals (rw [← zW];subst hV;show (W.alloc _).cell? _=_;simp [go_sem];done)
 rw [← zW]
 subst hV
 show W.heap.size < (W.alloc _).heap.size
 simp
end
section
set_option linter.unusedSimpArgs false
set_option linter.unusedVariables false
set_option maxRecDepth 100000
open Go.RowKit
theorem hidS {p:Prop} (h:p):Hid p:=h
def StepQ (w:World) (B:Nat) (Hq:Nat→Prop) (x:MD×Int) (e:Ending) (w':World):Prop:=∃ vc vk vm vt LC LK S,e=.returned (.tuple #[.agg #[vc,vk,vm,vt],.int .i64 x.2])∧MQ w' B Hq vc vk vm vt LC LK S x.1∧Below B w w'
theorem heap_pair {w V:World} {b g j:Nat} {u:Value} (h:V.heap[b]? =w.heap[b]?):(V.setCell ⟨g,j,none⟩ u).heap[b]? =(w.setCell ⟨g,j,none⟩ u).heap[b]? :=by
 simp only [World.setCell,Array.getElem?_modify,h]
theorem putK_putK (d:MD) (who:Nat) (a b:KD):putK (putK d who a) who b=putK d who b:=by
 unfold putK
 simp only [List.set_set]
theorem goM_put (d:MD) (who:Nat) (a k:KD) (n:Nat) (p:Int):goM (putK d who a) who k n p=goM d who k n p:=by
 unfold goM
 rw [putK_putK,putK_putK]
theorem MQ.reg {Hq : Nat → Prop} {w : World} {B gr cr who : Nat} {vc vk vm vt v : Value} {LC : List CV} {LK : List KV} {S : List RS} {d : MD} {k : KD} (h : MQ w B Hq vc vk vm vt LC LK S d) (hx : LK[who]? = some ⟨k, .slice (some ⟨gr, 0, none⟩) 8 cr, v⟩) (h8 : k.regs.length = 8) (j : Nat) (z : Int) :
  MQ (w.setCell ⟨gr,j,none⟩ (.int .i64 z)) B Hq vc vk vm vt LC (LK.set who ⟨{ k with regs:=k.regs.set j z },.slice (some ⟨gr,0,none⟩) 8 cr,v⟩) S (putK d who { k with regs:=k.regs.set j z }):=
 MQ.setR h hx (by show _=_;rw [h8]) z
theorem MQ.go {Hq : Nat → Prop} {w F : World} {B gk ck N who n : Nat} {vc vm vt r v : Value} {LC : List CV} {LK : List KV} {S : List RS} {d : MD} {k : KD} (h : MQ w B Hq vc (.slice (some ⟨gk, 0, none⟩) N ck) vm vt LC LK S d) (hN : LK.length = N) (hx : LK[who]? = some ⟨k, r, v⟩) (p : Int) (hp : p < (n : Int)) (hF : ∀ b, b < w.heap.size → F.heap[b]? = (w.setCell ⟨gk, who * 4, none⟩ (.int .i64 p)).heap[b]?) (hs : w.heap.size ≤ F.heap.size) :
  ∃ LK',MQ F B Hq vc (.slice (some ⟨gk,0,none⟩) N ck) vm vt LC LK' S (goM d who k n p):=by
 subst hN
 unfold goM
 rw [if_pos hp]
 exact ⟨_,(MQ.setK h hx p).1.keep (fun b _ hb=>hF b (by simpa using hb)) (by simpa using hs)⟩
theorem MQ.st {Hq : Nat → Prop} {w F : World} {B gk ck N who : Nat} {vc vm vt r v : Value} {LC : List CV} {LK : List KV} {S : List RS} {d : MD} {k : KD} (h : MQ w B Hq vc (.slice (some ⟨gk, 0, none⟩) N ck) vm vt LC LK S d) (hN : LK.length = N) (hx : LK[who]? = some ⟨k, r, v⟩) (z : Int) (hF : ∀ b, b < w.heap.size → F.heap[b]? = (w.setCell ⟨gk, who * 4 + 3, none⟩ (.int .i64 z)).heap[b]?) (hs : w.heap.size ≤ F.heap.size) :
  ∃ LK',MQ F B Hq vc (.slice (some ⟨gk,0,none⟩) N ck) vm vt LC LK' S (putK d who { k with st:=z }):=by
 subst hN
 exact ⟨_,(MQ.setK h hx z).2.keep (fun b _ hb=>hF b (by simpa using hb)) (by simpa using hs)⟩
theorem MQ.no {Hq : Nat → Prop} {w F : World} {B gk ck N who n : Nat} {vc vm vt r v : Value} {LC : List CV} {LK : List KV} {S : List RS} {d : MD} {k : KD} (h : MQ w B Hq vc (.slice (some ⟨gk, 0, none⟩) N ck) vm vt LC LK S d) (hN : LK.length = N) (hx : LK[who]? = some ⟨k, r, v⟩) (p : Int) (hp : ¬ p < (n : Int)) (hF : ∀ b, b < w.heap.size → F.heap[b]? = (w.setCell ⟨gk, who * 4 + 3, none⟩ (.int .i64 2)).heap[b]?) (hs : w.heap.size ≤ F.heap.size) :
  ∃ LK',MQ F B Hq vc (.slice (some ⟨gk,0,none⟩) N ck) vm vt LC LK' S (goM d who k n p):=by
 unfold goM
 rw [if_neg hp]
 exact h.st hN hx 2 hF hs
theorem set_at {L:List KV} {i:Nat} {x y:KV} (h:L[i]? =some x):(L.set i y)[i]? =some y:=by
 have:=(List.getElem?_eq_some_iff.1 h).1
 rw [List.getElem?_set_self this]
theorem Op8.ne {Hq : Nat → Prop} {w : World} {B : Nat} {vc vk vm vt : Value} {LC : List CV} {LK : List KV} {S : List RS} {d : MD} {who p : Nat} {k : KD} {code : List I5} {s : I5} {gc cc gk ck gs cs gr cr gv cv gO cO : Nat} {st : Option Addr} {ct : Nat} (h : MQ w B Hq vc vk vm vt LC LK S d) (o : Op8 w B vc vk vm vt LK d who p k code s gc cc gk ck gs cs gr cr gv cv gO cO st ct) :
  gr≠gc∧gr≠gk∧gr≠gO∧gr≠gv∧gk≠gc∧gk≠gO∧gc≠gO∧gv≠gk∧gv≠gc∧gv≠gO:=by
 have hr:=(h.k.inn who _ o.hx).1
 have hv:=(h.k.inn who _ o.hx).2
 have hk:=h.k.row
 have hc:=h.c.row
 have hm:=h.m.row
 have e1:(Value.slice (some ⟨gr,0,none⟩) 8 cr).ownBlock=some gr:=rfl
 have e2:(Value.slice (some ⟨gv,0,none⟩) 24 cv).ownBlock=some gv:=rfl
 have e3:vk.ownBlock=some gk:=by rw [o.ek];rfl
 have e4:vc.ownBlock=some gc:=by rw [o.ec];rfl
 have e5:vm.ownBlock=some gO:=by rw [o.em];rfl
 refine ⟨fun e=>?_,fun e=>?_,fun e=>?_,fun e=>?_,fun e=>?_,fun e=>?_,fun e=>?_,fun e=>?_,fun e=>?_,fun e=>?_⟩
 ·exact ownType' hr hc (by decide) e1 (e▸e4)
 ·exact ownType' hr hk (by decide) e1 (e▸e3)
 ·exact ownType' hr hm (by decide) e1 (e▸e5)
 ·exact h.k.two who _ gr o.hx e1 (e▸e2)
 ·exact ownType' hk hc (by decide) e3 (e▸e4)
 ·exact ownType' hk hm (by decide) e3 (e▸e5)
 ·exact ownType' hc hm (by decide) e4 (e▸e5)
 ·exact ownType' hv hk (by decide) e2 (e▸e3)
 ·exact ownType' hv hc (by decide) e2 (e▸e4)
 ·exact ownType' hv hm (by decide) e2 (e▸e5)
def bitN (b:Bool):Int:=if b=true then 1 else 0
theorem l4Bit_any (b:Bool) (w:World):Calls Tryz.prog 89 #[.bool b] w fun e w'=>e=.returned (.int .i64 (bitN b))∧w'=w:=by
 cases b
 all_goals
  go_enter Tryz.func89,Tryz.ntmps89
  go_wp2
  go_ret
  exact ⟨rfl,rfl⟩
theorem stepAt1 (d:MD) (who:Nat) (late:Int) (k:KD) (n:Nat) (s:I5) (h:s.o=1):stepAt d who late k n s=(goM d who (setR k s.r s.n) n (k.pc+1),0):=by
 unfold stepAt
 rw [if_pos h]
theorem stepAt2 (d:MD) (who:Nat) (late:Int) (k:KD) (n:Nat) (s:I5) (h:s.o=2):stepAt d who late k n s=(goM d who (setR k s.r (wI (regA k s.a+regA k s.b))) n (k.pc+1),0):=by
 unfold stepAt
 rw [if_neg (by rw [h];decide)]
 rw [if_pos h]
theorem stepAt3 (d:MD) (who:Nat) (late:Int) (k:KD) (n:Nat) (s:I5) (h:s.o=3):stepAt d who late k n s=(goM d who (setR k s.r (wI (regA k s.a - regA k s.b))) n (k.pc+1),0):=by
 unfold stepAt
 rw [if_neg (by rw [h];decide)]
 rw [if_neg (by rw [h];decide)]
 rw [if_pos h]
theorem stepAt4 (d:MD) (who:Nat) (late:Int) (k:KD) (n:Nat) (s:I5) (h:s.o=4):stepAt d who late k n s=(goM d who (setR k s.r (if regA k s.a < regA k s.b then 1 else 0)) n (k.pc+1),0):=by
 unfold stepAt
 rw [if_neg (by rw [h];decide)]
 rw [if_neg (by rw [h];decide)]
 rw [if_neg (by rw [h];decide)]
 rw [if_pos h]
theorem stepAt9 (d:MD) (who:Nat) (late:Int) (k:KD) (n:Nat) (s:I5) (h:s.o=9):stepAt d who late k n s=(if d.tr.length=4000 then (d,3) else (goM { d with tr:=d.tr++[⟨who,regA k s.a⟩] } who k n (k.pc+1),0)):=by
 unfold stepAt
 rw [if_neg (by rw [h];decide)]
 rw [if_neg (by rw [h];decide)]
 rw [if_neg (by rw [h];decide)]
 rw [if_neg (by rw [h];decide)]
 rw [if_pos h]
theorem stepAt10 (d:MD) (who:Nat) (late:Int) (k:KD) (n:Nat) (s:I5) (h:s.o=10):stepAt d who late k n s=(goM d who k n s.n,0):=by
 unfold stepAt
 rw [if_neg (by rw [h];decide)]
 rw [if_neg (by rw [h];decide)]
 rw [if_neg (by rw [h];decide)]
 rw [if_neg (by rw [h];decide)]
 rw [if_neg (by rw [h];decide)]
 rw [if_pos h]
theorem stepAt11 (d:MD) (who:Nat) (late:Int) (k:KD) (n:Nat) (s:I5) (h:s.o=11):stepAt d who late k n s=(goM d who k n (if regA k s.a=0 then s.n else k.pc+1),0):=by
 unfold stepAt
 rw [if_neg (by rw [h];decide)]
 rw [if_neg (by rw [h];decide)]
 rw [if_neg (by rw [h];decide)]
 rw [if_neg (by rw [h];decide)]
 rw [if_neg (by rw [h];decide)]
 rw [if_neg (by rw [h];decide)]
 rw [if_pos h]
theorem stepAt12 (d:MD) (who:Nat) (late:Int) (k:KD) (n:Nat) (s:I5) (h:s.o=12):stepAt d who late k n s=(putK d who { k with st:=1 },0):=by
 unfold stepAt
 rw [if_neg (by rw [h];decide)]
 rw [if_neg (by rw [h];decide)]
 rw [if_neg (by rw [h];decide)]
 rw [if_neg (by rw [h];decide)]
 rw [if_neg (by rw [h];decide)]
 rw [if_neg (by rw [h];decide)]
 rw [if_neg (by rw [h];decide)]
 rw [if_pos h]
theorem stepAt13 (d:MD) (who:Nat) (late:Int) (k:KD) (n:Nat) (s:I5) (h:s.o=13):stepAt d who late k n s=(putK d who { k with st:=2 },0):=by
 unfold stepAt
 rw [if_neg (by rw [h];decide)]
 rw [if_neg (by rw [h];decide)]
 rw [if_neg (by rw [h];decide)]
 rw [if_neg (by rw [h];decide)]
 rw [if_neg (by rw [h];decide)]
 rw [if_neg (by rw [h];decide)]
 rw [if_neg (by rw [h];decide)]
 rw [if_neg (by rw [h];decide)]
 rw [if_pos h]
theorem stepAtM (d:MD) (who:Nat) (late:Int) (k:KD) (n:Nat) (s:I5) (h:5≤s.o∧s.o≤8):stepAt d who late k n s=(if 0≤cellM k s∧cellM k s≤23 then (if s.o≠5∧(d.mem.getD (cellM k s).toNat []).length=4000 then (d,3) else (goM (memS d late k s (cellM k s).toNat).1 who (memS d late k s (cellM k s).toNat).2 n (k.pc+1),0)) else (putK d who { k with st:=2 },0)):=by
 unfold stepAt
 rw [if_neg (by omega)]
 rw [if_neg (by omega)]
 rw [if_neg (by omega)]
 rw [if_neg (by omega)]
 rw [if_neg (by omega)]
 rw [if_neg (by omega)]
 rw [if_neg (by omega)]
 rw [if_neg (by omega)]
 rw [if_neg (by omega)]
theorem wp_note {o : Oper} {a : Act} {w : World} {K : Act → World → Prop} {Q : Exit → Act → World → Prop} (s x : Operand) (ho : o.op = .call { callee := .builtin .append, args := #[s, x], argTypes := #[36, 36] })
  (base:Nat) (v:Value) (n:Nat) (xs:List Value) (hs:a.eval s=v) (hown:w.ownsRow base 105 2 v n xs) (g0:Nat) (u0 u1:Value) (hu0:u0.oneCell'=true) (hu1:u1.oneCell'=true) (hx:a.eval x=.slice (some ⟨g0,0,none⟩) 1 1) (hc0:w.cell? ⟨g0,0,none⟩=some u0) (hc1:w.cell? ⟨g0,1,none⟩=some u1) (hn:n≤1073741824) (hbase:base≤w.heap.size)
  (h:∀ g cap w',w'.ownsRow base 105 2 (.slice (some ⟨g,0,none⟩) (n+1) cap) (n+1) (xs++[u0,u1])→w.grownBy w' v.ownBlock→(v.ownBlock=some g∨w.heap.size≤g)→g < w'.heap.size→K (a.put o.dst (.slice (some ⟨g,0,none⟩) (n+1) cap)) w'):Oper.wp Tryz.prog o a w K Q:=by
 obtain ⟨i0,hi,hz0,hz1,hz2⟩:=infoD
 refine wp_append_lies w s x 36 ho base 105 i0 _ 2 16 Tryz.underlying36 hi hz0 hz1 hz2 rfl (by decide) v n xs hs hown ⟨g0,0,none⟩ 1 1 [u0,u1] hx rfl (fun j u' hj=>?_) (fun u' hu'=>by simp at hu';rcases hu' with rfl | rfl<;>assumption) (by decide) (by unfold maxLen;omega) (by omega) hbase _ rfl ?_
 ·match j,hj with
  | 0,hj=>simp at hj;subst hj;simpa [Addr.add] using hc0
  | 1,hj=>simp at hj;subst hj;simpa [Addr.add] using hc1
  | j+2,hj=>simp at hj
 ·intro g cap w' q1 q2 q3 q4
  exact h g cap w' q1 q2 (by rcases q3 with q3 | q3<;>first | exact .inl q3 | exact .inr (by omega)) q4
theorem step_note {ops : Array Oper} {o : Oper} {a : Act} {K : Act → World → Prop} {Q : Exit → Act → World → Prop} {E : Prop} (hgd : o.guard = none) (s x : Operand) (ho : o.op = .call { callee := .builtin .append, args := #[s, x], argTypes := #[36, 36] })
  (w:World) (base:Nat) (v:Value) (n:Nat) (xs:List Value) (hs:a.eval s=v) (hown:w.ownsRow base 105 2 v n xs) (g0:Nat) (u0 u1:Value) (hu0:u0.oneCell'=true) (hu1:u1.oneCell'=true) (hx:a.eval x=.slice (some ⟨g0,0,none⟩) 1 1) (hc0:w.cell? ⟨g0,0,none⟩=some u0) (hc1:w.cell? ⟨g0,1,none⟩=some u1) (hn:n≤1073741824) (hbase:base≤w.heap.size)
  (h:∀ g cap w',w'.ownsRow base 105 2 (.slice (some ⟨g,0,none⟩) (n+1) cap) (n+1) (xs++[u0,u1])→w.grownBy w' v.ownBlock→(v.ownBlock=some g∨w.heap.size≤g)→g < w'.heap.size→K (a.put o.dst (.slice (some ⟨g,0,none⟩) (n+1) cap)) w'):if Region.wanted o (yielded ops a.tmps)=true then Oper.wp Tryz.prog o a w K Q else E:=by
 have hw:Region.wanted o (yielded ops a.tmps)=true:=by simp [Region.wanted,hgd]
 rw [if_pos hw]
 exact wp_note s x ho base v n xs hs hown g0 u0 u1 hu0 hu1 hx hc0 hc1 hn hbase h
/- a note more: the rest of the machine stays -/
theorem MQ0.note {w w':World} {B g cap:Nat} {vc vk vm vt:Value} {LC:List CV} {LK:List KV} {S:List RS} {d:MD} (nt:ND) (h:MQ0 w B vc vk vm vt LC LK S d) (ho:w'.ownsRow B 105 2 (.slice (some ⟨g,0,none⟩) (d.tr.length+1) cap) (d.tr.length+1) (flatN d.tr++[.int .i64 nt.who,.int .i64 nt.v])) (hb:∀ b,b < w.heap.size→vt.ownBlock≠some b→w'.heap[b]? =w.heap[b]?) (hs:w.heap.size≤w'.heap.size):MQ0 w' B vc vk vm (.slice (some ⟨g,0,none⟩) (d.tr.length+1) cap) LC LK S { d with tr:=d.tr++[nt] }:=by
 have ne:∀ {e:TypeId} {size n:Nat} {u:Value} {xs:List Value},w.ownsRow B e size u n xs→e≠105→∀ q,u.ownBlock=some q→w'.heap[q]? =w.heap[q]? :=fun hu h1 q hq=>hb q (World.ownsRow.lt hu _ hq).2 (ownType' hu h.t h1 hq)
 refine ⟨⟨ownKeep' h.c.row (ne h.c.row (by decide)),fun i x hx=>ownKeep' (h.c.inn i x hx) (ne (h.c.inn i x hx) (by decide)),h.c.sep⟩,h.ec,⟨ownKeep' h.k.row (ne h.k.row (by decide)),fun i x hx=>⟨ownKeep' (h.k.inn i x hx).1 (ne (h.k.inn i x hx).1 (by decide)),ownKeep' (h.k.inn i x hx).2 (ne (h.k.inn i x hx).2 (by decide))⟩,h.k.two,h.k.sep⟩,h.ek,?_,?_,h.sk⟩
 ·refine ⟨h.m.n,ownKeep' h.m.row (ne h.m.row (by decide)),fun i' r l hr hl=>?_,h.m.d⟩
  have q:=h.m.r i' r l hr hl
  refine q.kept (ne q.own (by decide)) (fun a ha=>?_) hs
  obtain ⟨cs,f,c1⟩:=q.vt a ha
  refine hb a.block (q.blk ha).2 (fun e=>?_)
  obtain ⟨cs',f',c2⟩:=own_ty h.t e
  rw [c2] at c1
  injection c1 with c1
  injection c1 with _ c1
  exact absurd c1 (by decide)
 ·show OwnD w' B _ (d.tr++[nt])
  unfold OwnD
  rw [flatN_app,List.length_append]
  exact ho
theorem MQ.note {Hq:Nat→Prop} {w w':World} {B g cap:Nat} {vc vk vm vt:Value} {LC:List CV} {LK:List KV} {S:List RS} {d:MD} (nt:ND) (h:MQ w B Hq vc vk vm vt LC LK S d) (ho:w'.ownsRow B 105 2 (.slice (some ⟨g,0,none⟩) (d.tr.length+1) cap) (d.tr.length+1) (flatN d.tr++[.int .i64 nt.who,.int .i64 nt.v])) (hb:∀ b,b < w.heap.size→vt.ownBlock≠some b→w'.heap[b]? =w.heap[b]?) (hs:w.heap.size≤w'.heap.size) (hg:vt.ownBlock=some g∨w.heap.size≤g):MQ w' B Hq vc vk vm (.slice (some ⟨g,0,none⟩) (d.tr.length+1) cap) LC LK S { d with tr:=d.tr++[nt] }:=⟨h.toMQ0.note nt ho hb hs,⟨h.hh.c,h.hh.ci,h.hh.k,h.hh.ki,h.hh.m,h.hh.mi,fun q hq=>by injection hq with hq;subst hq;exact hg.elim (fun e=>h.hh.t _ e) (fun e=>h.hn _ e)⟩,fun q hq=>h.hn q (Nat.le_trans hs hq)⟩
theorem app_note {ops : Array Oper} {rest : List Oper} {o : Oper} {a : Act} {Q : Exit → Act → World → Prop} (hgd : o.guard = none) (s x : Operand) (ho : o.op = .call { callee := .builtin .append, args := #[s, x], argTypes := #[36, 36] })
  (w:World) (base:Nat) (v:Value) (n:Nat) (xs:List Value) (hs:a.eval s=v) (hown:w.ownsRow base 105 2 v n xs) (g0:Nat) (u0 u1:Value) (hu0:u0.oneCell'=true) (hu1:u1.oneCell'=true) (hx:a.eval x=.slice (some ⟨g0,0,none⟩) 1 1) (hc0:w.cell? ⟨g0,0,none⟩=some u0) (hc1:w.cell? ⟨g0,1,none⟩=some u1) (hn:n≤1073741824) (hbase:base≤w.heap.size)
  (h:∀ g cap w',w'.ownsRow base 105 2 (.slice (some ⟨g,0,none⟩) (n+1) cap) (n+1) (xs++[u0,u1])→w.grownBy w' v.ownBlock→(v.ownBlock=some g∨w.heap.size≤g)→g < w'.heap.size→wpList Tryz.prog ops Q rest (a.put o.dst (.slice (some ⟨g,0,none⟩) (n+1) cap)) w'):wpList Tryz.prog ops Q (o::rest) a w:=
 wpList_plain hgd fun _ hK=>wp_note s x ho base v n xs hs hown g0 u0 u1 hu0 hu1 hx hc0 hc1 hn hbase fun g cap w' h1 h2 h3 h4=>hK _ _ (h g cap w' h1 h2 h3 h4)
/- a store into a box of a machine's type -/
theorem MQ0.offB {w:World} {B b j:Nat} {vc vk vm vt u:Value} {LC:List CV} {LK:List KV} {S:List RS} {d:MD} (h:MQ0 w B vc vk vm vt LC LK S d) (ht:BxT w b):MQ0 (w.setCell ⟨b,j,none⟩ u) B vc vk vm vt LC LK S d:=by
 have hb:∀ k,k≠b→(w.setCell ⟨b,j,none⟩ u).heap[k]? =w.heap[k]? :=fun k hk=>Below.heap_setCell _ _ _ k hk
 exact ⟨h.c.off ht hb,h.ec,h.k.off ht hb,h.ek,h.m.off ht hb (by simp),h.t.off ht hb,h.sk⟩
theorem MQ.offB {Hq:Nat→Prop} {w:World} {B b j:Nat} {vc vk vm vt u:Value} {LC:List CV} {LK:List KV} {S:List RS} {d:MD} (h:MQ w B Hq vc vk vm vt LC LK S d) (ht:BxT w b):MQ (w.setCell ⟨b,j,none⟩ u) B Hq vc vk vm vt LC LK S d:=⟨h.toMQ0.offB ht,h.hh,by simpa using h.hn⟩
theorem BxT.same {w w':World} {b:Nat} (h:BxT w b) (e:w'.heap[b]? =w.heap[b]?):BxT w' b:=by
 obtain ⟨cs,f,c⟩:=h
 exact ⟨cs,f,e.trans c⟩
theorem BxT.lt {w:World} {b:Nat} (h:BxT w b):b < w.heap.size:=by
 obtain ⟨cs,f,c⟩:=h
 exact (Array.getElem?_eq_some_iff.1 c).1
theorem BxT.alloc {w:World} {b:Nat} (h:BxT w b) (o:Obj):BxT (w.alloc o) b:=h.same (Below.heap_alloc _ _ _ h.lt)
theorem BxT.new (w:World) (cs:Array Value):BxT (w.alloc (.cells cs 38)) w.heap.size:=⟨_,_,heap_alloc_new _ _⟩
theorem boxT {w W V : World} {m0 m1 m2 m3 x0 x1 k0 k1 k2 k3 s0 s1 s2 s3 s4 : Value} {T1 T3 T4 : TypeId}
  (hW:(((w.alloc (.cells #[m0,m1,m2,m3] 38)).alloc (.cells #[x0,x1] T1)).alloc (.cells #[.slice none 0 0,.slice none 0 0,.slice none 0 0,.slice none 0 0] 38)).alloc (.cells #[k0,k1,k2,k3] T3)=W) (hV:(W.alloc (.cells #[s0,s1,s2,s3,s4] T4)).drew=V):
  BxT V w.heap.size∧BxT V (w.heap.size+1+1):=by
 subst hW
 subst hV
 have e:((w.alloc (.cells #[m0,m1,m2,m3] 38)).alloc (.cells #[x0,x1] T1)).heap.size=w.heap.size+1+1:=by simp
 refine ⟨?_,?_⟩
 ·exact BxT.same (BxT.alloc (BxT.alloc (BxT.alloc (BxT.alloc (BxT.new w _) _) _) _) _) rfl
 ·rw [← e]
  exact BxT.same (BxT.alloc (BxT.alloc (BxT.new _ _) _) _) rfl
end
section
set_option linter.unusedSimpArgs false
set_option linter.unusedVariables false
set_option maxRecDepth 100000
open Go.RowKit
section
variable {P:Program} {full:List Oper} {Q:Exit→Act→World→Prop} {C:World→Prop} {m:Nat}
/- whatever order is picked; behind one of the first m the world is of the class -/
def wpAnyU (P:Program) (full:List Oper) (Q:Exit→Act→World→Prop) (C:World→Prop) (m:Nat):Nat→Array Bool→Act→World→Prop
 | 0,listed,a,w=>Region.ready .any full.toArray listed=[]∧Q .normal a w
 | fuel+1,listed,a,w=>(Region.ready .any full.toArray listed=[]→Q .normal a w)∧∀ i∈Region.ready .any full.toArray listed,wpOp P full.toArray Q i (fun a' w'=>(i < m→C w→C w')∧wpAnyU P full Q C m fuel (listed.setIfInBounds i true) a' w') a w
theorem any_of_U:∀ (fuel:Nat) (listed:Array Bool) (a:Act) (w:World),wpAnyU P full Q C m fuel listed a w→wpAny P .any full.toArray Q fuel listed a w
 | 0,_,_,_,h=>h
 | fuel+1,_,_,_,h=>⟨h.1,fun i hi=>wpOp_mono (fun a' w' h'=>any_of_U fuel _ a' w' h'.2) (h.2 i hi)⟩
theorem U_first {T : World → Prop} {i : Nat} {oi : Oper} {v : Value} (hi : full[i]? = some oi) (hsel : Region.noSelect full.toArray = true) (hQ : ∀ c a w, Q (.panic c) (a.put oi.dst v) w → Q (.panic c) a w) (hT : ∀ j, j < full.length → j ≠ i → edgeB full j i = false → ∀ w w', (j < m → C w → C w') → T w → T w') :
  ∀ (fuel:Nat) (listed:Array Bool) (a:Act) (w:World),(∀ j oj,full[j]? =some oj→j≠i→listed.getD j true=false→edgeB full j i=false→oi.apart full.toArray oj=true)→i∈Region.ready .any full.toArray listed→i < listed.size→YieldsIf P full.toArray T oi v a→T w→
   wpAnyU P full Q C m fuel (listed.setIfInBounds i true) (a.put oi.dst v) w→wpAnyU P full Q C m (fuel+1) listed a w:=by
 have hi':full.toArray[i]? =some oi:=by rw [List.getElem?_toArray];exact hi
 have sl:=Region.noSelect_spec hsel
 intro fuel
 induction fuel with
 | zero=>
  intro listed a w _ hr _ hy hw H
  refine ⟨fun h=>(by rw [h] at hr;cases hr),fun j hj=>?_⟩
  by_cases e:j=i
  ·subst e;exact hy.wpOp hi' hw ⟨fun _ hc=>hc,H⟩
  ·have q:=ready_mono hj e
   rw [H.1] at q
   cases q
 | succ n ih=>
  intro listed a w hf hr hsz hy hw H
  refine ⟨fun h=>(by rw [h] at hr;cases hr),fun j hj=>?_⟩
  by_cases e:j=i
  ·subst e;exact hy.wpOp hi' hw ⟨fun _ hc=>hc,H⟩
  ·have h1:=H.2 j (ready_mono hj e)
   obtain ⟨b1,b2,b3⟩:=mem_rdy.1 hj
   obtain ⟨oj,hoj⟩:∃ o,full[j]? =some o:=⟨_,List.getElem?_eq_getElem b1⟩
   have hno:edgeB full j i=false:=by
    cases hh:edgeB full j i with
    | false=>rfl
    | true=>
     have q:=b3 i hh
     have q2:=(mem_rdy.1 hr).2.1
     rw [getD_in hsz true false,q] at q2
     cases q2
   have hoj':full.toArray[j]? =some oj:=by rw [List.getElem?_toArray];exact hoj
   have h2:=wpOp_putIf hoj' (hf j oj hoj e b2 hno) (fun cs b=>sl i oi cs b hi') (fun cs b=>sl j oj cs b hoj') hQ hy h1
   refine wpOp_mono (fun a' w' h3=>⟨h3.2.1,ih (listed.setIfInBounds j true) a' w' (fun k ok hk hki hun hn=>hf k ok hk hki ?_ hn) (ready_mono hr (Ne.symm e)) (by simpa using hsz) h3.1 (hT j b1 e hno w w' h3.2.1 hw) ?_⟩) h2
   ·by_cases hjk:j=k
    ·subst hjk;exact b2
    ·rw [getD_set_ne true hjk] at hun;exact hun
   ·rw [Array.setIfInBounds_comm _ _ e]
    exact h3.2.2
/- the operations whose result is a value -/
def isVal (o:Oper):Bool:=match o.op with | .load .. | .fieldAddr .. | .indexAddr .. | .move _ | .assign _ | .nilCheck _ | .binOp .. | .unOp .. | .build .. | .extract ..=>true | _=>false
theorem val_run {ρ:Operand→Value} {o:Oper} {w w':World} {n:Next} (hv:isVal o=true) (h:(execOp ρ o).run P w=.ok n w'):∃ u,n=.value u:=by
 have vv:∀ (s:Sem Value),(do pure (Next.value (← s)):Sem Next).run P w=.ok n w'→∃ u,n=.value u:=fun s hs=>by
  rw [Sem.run_bind] at hs
  cases hr:s.run P w with
  | ok u w2=>
   rw [hr] at hs
   simp only [Result.andThen,Sem.run_pure] at hs
   injection hs with h1 h2
   exact ⟨u,h1.symm⟩
  | halt x w2=>
   rw [hr] at hs
   simp only [Result.andThen] at hs
   cases hs
 have bd:∀ {α:Type} (s:Sem α) (f:α→Sem Next) (w:World),(∀ x w1,(f x).run P w1=.ok n w'→∃ u,n=.value u)→(s >>=f).run P w=.ok n w'→∃ u,n=.value u:=fun s f w hf hs=>by
  rw [Sem.run_bind] at hs
  cases hr:s.run P w with
  | ok u w2=>rw [hr] at hs;exact hf u w2 hs
  | halt x w2=>
   rw [hr] at hs
   simp only [Result.andThen] at hs
   cases hs
 have pr:∀ (v:Value) (w:World),(pure (Next.value v):Sem Next).run P w=.ok n w'→∃ u,n=.value u:=fun v w hs=>by
  rw [Sem.run_pure] at hs
  injection hs with h1 h2
  exact ⟨_,h1.symm⟩
 unfold isVal at hv
 unfold execOp at h
 split at hv
 all_goals first
  | cases hv
  | skip
 all_goals (rename_i heq;rw [heq] at h;simp only at h)
 all_goals first
  | exact vv _ h
  | (rw [Sem.run_pure] at h;injection h with h1 h2;exact ⟨_,h1.symm⟩)
  | skip
 split at h
 all_goals first
  | (simp [runtimePanic] at h;done)
  | (rw [Sem.run_pure] at h;injection h with h1 h2;exact ⟨_,h1.symm⟩)
  | skip
 split at h
 ·simp [runtimePanic] at h
 ·refine bd _ _ _ (fun x w1 h1=>?_) h
  refine bd _ _ _ (fun y w2 h2=>?_) h1
  split at h2
  ·exact bd _ _ _ (fun z w3 h3=>pr _ _ h3) h2
  ·exact pr _ _ h2
 ·exact pr _ _ h
/- what is quiet and a value yields it in every world of the class -/
theorem val_quiet {o:Oper} {a:Act} {w:World} {v:Value} (hv:isVal o=true) (h:o.quietAt P a C w v):(execOp a.eval o).run P w=.ok (.value v) w:=by
 unfold Oper.quietAt at h
 cases hr:(execOp a.eval o).run P w with
 | ok n w'=>
  obtain ⟨u,rfl⟩:=val_run hv hr
  rw [hr] at h
  obtain ⟨rfl,rfl⟩:=h
  rfl
 | halt x w'=>rw [hr] at h;cases h
theorem ext_run {o:Oper} {t:Operand} {ix:Nat} (ho:o.op=.extract t ix) (a:Act):((∃ v,∀ w,(execOp a.eval o).run P w=.ok (.value v) w)∨∃ s,∀ w,(execOp a.eval o).run P w=.halt (.stuck s) w)∧∀ w,((execOp a.eval o).runT P w #[]).2=#[]:=by
 have e:execOp a.eval o=(do pure (Next.value (← Instr.extract (a.eval t) ix))):=by unfold execOp;rw [ho]
 rw [e]
 unfold Instr.extract
 split
 ·split
  ·exact ⟨.inl ⟨_,fun w=>rfl⟩,fun w=>rfl⟩
  ·exact ⟨.inr ⟨_,fun w=>rfl⟩,fun w=>rfl⟩
 ·exact ⟨.inr ⟨_,fun w=>rfl⟩,fun w=>rfl⟩
def up (n k:Nat):Array Bool:=((List.range n).map fun i=>decide (i < k)).toArray
theorem up_size (n k:Nat):(up n k).size=n:=by simp [up]
theorem up_at {n k i:Nat} (h:i < n) (b:Bool):(up n k).getD i b=decide (i < k):=by simp [up,Array.getD,h]
theorem up_next {n k:Nat} (h:k < n):(up n k).setIfInBounds k true=up n (k+1):=by
 refine Array.ext (by simp [up]) fun i h1 h2=>?_
 simp [up] at h1 h2
 by_cases e:k=i
 ·subst e;simp [up]
 ·simp [up,Array.getElem_setIfInBounds,e]
  omega
theorem up_zero (n:Nat):Array.replicate n false=up n 0:=Array.ext (by simp [up]) fun i h1 h2=>by simp [up]
def barB (full:List Oper) (k:Nat):Bool:=(List.range full.length).all fun j=>decide (j≤k)||(List.range j).any fun i=>decide (k≤i)&&edgeB full j i
def isExt (o:Oper):Bool:=o.guard.isNone&&match o.op with | .extract ..=>true | _=>false
def stepOkB (full:List Oper) (j:Nat):Bool:=barB full j||(((full[j]?).map isExt).getD false&&Region.free .any full.toArray (up full.length j) j)
def readB (full:List Oper) (i:Nat):Bool:=((full[i]?).map isVal).getD false&&Region.free .any full.toArray (up full.length i) i
def mixOk (full:List Oper) (k m:Nat):Bool:=
 decide (k < full.length)&&(lexE full&&(Region.noSelect full.toArray&&((List.range k).all (readB full)&&((List.range full.length).all (fun j=>decide (j < m)||(List.range k).all fun i=>edgeB full j i)&&(List.range full.length).all (fun j=>decide (j < k)||stepOkB full j)))))
/- another end where all went well -/
def Qn (Q:Exit→Act→World→Prop) (K:Act→World→Prop):Exit→Act→World→Prop
 | .normal,a,w=>K a w
 | e,a,w=>Q e a w
def wpListC (P:Program) (ops:Array Oper) (Q:Exit→Act→World→Prop) (C:World→Prop) (m:Nat):Nat→List Oper→Act→World→Prop
 | _,[],a,w=>Q .normal a w
 | j,o::t,a,w=>wpList P ops (Qn Q fun a' w'=>(j < m→C w→C w')∧wpListC P ops Q C m (j+1) t a' w') [o] a w
theorem wp_monoQ {o:Oper} {a:Act} {w:World} {K K' L:Act→World→Prop} (h:∀ a w,K a w→K' a w) (hh:o.wp P a w K (Qn Q L)):o.wp P a w K' Q:=by
 unfold Oper.wp at *
 generalize (execOp a.eval o).run P w=r at *
 cases r with
 | ok n w'=>
  cases n<;>simp only [Oper.upon] at hh ⊢<;>
   first
    | exact h _ _ hh
    | exact Calls.mono hh (fun e w'' he=>by cases e<;>first | exact h _ _ he | exact he)
    | exact Rows.mono hh (fun _ _ he=>h _ _ he)
 | halt x w'=>cases x<;>simp only [Oper.upon] at hh ⊢<;>exact hh
/- from number m on: the walk as ever -/
theorem listC_late {ops:Array Oper}:∀ (t:List Oper) (j:Nat) (a:Act) (w:World),m≤j→wpList P ops Q t a w→wpListC P ops Q C m j t a w
 | [],_,_,_,_,h=>h
 | o::t,j,a,w,hj,h=>by
  unfold wpListC
  unfold wpList at h ⊢
  have go:∀ a' w',wpList P ops Q t a' w'→(Qn Q fun a' w'=>(j < m→C w→C w')∧wpListC P ops Q C m (j+1) t a' w') .normal a' w':=fun a' w' hh=>⟨fun q=>by omega,listC_late t (j+1) a' w' (by omega) hh⟩
  split
  ·rename_i hw
   rw [if_pos hw] at h
   rcases h with h | ⟨h1,a2,w2,h2⟩
   ·refine .inl ?_
    unfold Oper.wp at *
    generalize (execOp a.eval o).run P w=r at *
    cases r with
    | ok n w'=>
     cases n<;>simp only [Oper.upon] at h ⊢<;>
      first
       | exact go _ _ h
       | exact Calls.mono h (fun e w'' he=>by cases e<;>first | exact go _ _ he | exact he)
       | exact Rows.mono h (fun _ _ he=>go _ _ he)
    | halt x w'=>cases x<;>simp only [Oper.upon] at h ⊢<;>exact h
   ·exact .inr ⟨h1,a2,w2,h2⟩
  ·rename_i hw
   rw [if_neg hw] at h
   exact go _ _ h
theorem rdy_up {j:Nat} (hx:lexE full=true) (hj:j < full.length):j∈Region.ready .any full.toArray (up full.length j):=
 mem_rdy.2 ⟨hj,by rw [up_at hj];simp,fun i2 he=>by have:=(lex_lt hx he).1;rw [up_at (by omega)];simpa using this⟩
theorem free_up {i j:Nat} {oi oj:Oper} {listed:Array Bool} (hi:full[i]? =some oi) (h:Region.free .any full.toArray listed i=true) (hj:full[j]? =some oj) (hne:j≠i) (hun:listed.getD j true=false) (hno:edgeB full j i=false):oi.apart full.toArray oj=true:=by
 refine Region.free_spec (by rw [List.getElem?_toArray];exact hi) h j oj (by rw [List.getElem?_toArray];exact hj) hne hun (fun e he hb heq=>?_)
 have:edgeB full j i=true:=edge_iff.2 ⟨oj,hj,e,he,hb,heq⟩
 rw [hno] at this
 cases this
theorem mix_rest (hx:lexE full=true) (hs:Region.noSelect full.toArray=true) (hQ:∀ c a d v w,Q (.panic c) (Act.put a d v) w→Q (.panic c) a w):∀ (t:List Oper) (j:Nat) (a:Act) (w:World),full.drop j=t→(∀ i,j≤i→i < full.length→stepOkB full i=true)→wpListC P full.toArray Q C m j t a w→wpAnyU P full Q C m t.length (up full.length j) a w
 | [],j,a,w,ht,_,h=>by
  have hk:full.length≤j:=List.drop_eq_nil_iff.1 ht
  refine ⟨List.eq_nil_iff_forall_not_mem.2 fun i hi=>?_,h⟩
  obtain ⟨h1,h2,-⟩:=mem_rdy.1 hi
  rw [up_at h1] at h2
  simp at h2
  omega
 | o::t,j,a,w,ht,hst,h=>by
  have hj:j < full.length:=by
   rcases Nat.lt_or_ge j full.length with q | q
   ·exact q
   ·rw [List.drop_eq_nil_of_le q] at ht;cases ht
  have ho:full[j]? =some o:=by
   have:(full.drop j)[0]? =some o:=by rw [ht];rfl
   rw [List.getElem?_drop] at this
   simpa using this
  have ho':full.toArray[j]? =some o:=by rw [List.getElem?_toArray];exact ho
  have hr:=rdy_up hx hj
  have ht':full.drop (j+1)=t:=by rw [← List.drop_drop,ht];rfl
  have go:∀ a' w',wpListC P full.toArray Q C m (j+1) t a' w'→wpAnyU P full Q C m t.length (up full.length (j+1)) a' w':=fun a' w' hh=>mix_rest hx hs hQ t (j+1) a' w' ht' (fun i a b=>hst i (by omega) b) hh
  have hq:=hst j (Nat.le_refl _) hj
  unfold stepOkB at hq
  rw [Bool.or_eq_true] at hq
  unfold wpListC at h
  unfold wpList at h
  rcases hq with hq | hq
  ·have hall:∀ i,i∈Region.ready .any full.toArray (up full.length j)→i=j:=fun i hi=>by
    obtain ⟨h1,h2,h3⟩:=mem_rdy.1 hi
    rw [up_at h1] at h2
    simp at h2
    rcases Nat.lt_or_eq_of_le h2 with q | q
    ·exfalso
     unfold barB at hq
     rw [List.all_eq_true] at hq
     have c:=hq i (List.mem_range.2 h1)
     rw [Bool.or_eq_true,decide_eq_true_eq,List.any_eq_true] at c
     rcases c with c | ⟨i2,m1,c⟩
     ·omega
     ·rw [Bool.and_eq_true,decide_eq_true_eq] at c
      rw [List.mem_range] at m1
      have c2:=h3 i2 c.2
      rw [up_at (by omega)] at c2
      simp at c2
      omega
    ·exact q.symm
   refine ⟨fun h0=>(by rw [h0] at hr;cases hr),fun i hi=>?_⟩
   have e:=hall i hi
   subst e
   unfold wpOp
   simp only [ho']
   rw [up_next hj]
   split
   ·rename_i hw
    rw [if_pos hw] at h
    exact h.imp (wp_monoQ fun a' w' hh=>⟨hh.1,go _ _ hh.2⟩) id
   ·rename_i hw
    rw [if_neg hw] at h
    exact ⟨h.1,go _ _ h.2⟩
  ·rw [Bool.and_eq_true,ho] at hq
   obtain ⟨q1,q2⟩:=hq
   simp only [Option.map_some,Option.getD_some] at q1
   unfold isExt at q1
   rw [Bool.and_eq_true] at q1
   obtain ⟨g1,q1⟩:=q1
   have hg:o.guard=none:=by simpa using g1
   have hw:∀ t,Region.wanted o t=true:=fun t=>by simp [Region.wanted,hg]
   rw [if_pos (hw _)] at h
   split at q1
   ·rename_i tt ix heq
    obtain ⟨hrun,htr⟩:=ext_run (P:=P) heq a
    have h:=h.resolve_right (fun hh=>by have h1:=hh.1.1;rw [htr w] at h1;simp at h1)
    rcases hrun with ⟨v,hv⟩ | ⟨s,hv⟩
    ·unfold Oper.wp at h
     rw [hv w] at h
     simp only [Oper.upon] at h
     refine U_first (T:=fun _=>True) ho hs (fun c a w=>hQ c a o.dst v w) (fun _ _ _ _ _ _ _ _=>trivial) t.length (up full.length j) a w (fun j' oj hj' hne hun hno=>free_up ho q2 hj' hne hun hno) hr (by rw [up_size];exact hj) (.inl ⟨hw _,fun w _=>hv w⟩) trivial ?_
     rw [up_next hj]
     exact go _ _ h.2
    ·unfold Oper.wp at h
     rw [hv w] at h
     simp only [Oper.upon] at h
   ·cases q1
theorem mix_reads {k:Nat} (hk:k < full.length) (hx:lexE full=true) (hs:Region.noSelect full.toArray=true) (hQ:∀ c a d v w,Q (.panic c) (Act.put a d v) w→Q (.panic c) a w) (hrd:∀ i,i < k→readB full i=true) (hlt:∀ i j,i < k→m≤j→j < full.length→edgeB full j i=true) (hst:∀ i,k≤i→i < full.length→stepOkB full i=true):∀ (l:List Oper) (i:Nat) (a:Act) (w:World),(full.take k).drop i=l→i≤k→C w→wpQuiet P full.toArray C (fun a'=>wpListC P full.toArray Q C m k (full.drop k) a' w) l a→wpAnyU P full Q C m (full.length - i) (up full.length i) a w
 | [],i,a,w,hl,hi,hC,h=>by
  have hkl:(full.take k).length=k:=by rw [List.length_take];omega
  have:k≤i:=by have:=List.drop_eq_nil_iff.1 hl;omega
  have e:i=k:=by omega
  subst e
  have q:=mix_rest (P:=P) (C:=C) (m:=m) hx hs hQ (full.drop i) i a w rfl hst h
  rw [List.length_drop] at q
  exact q
 | o::l,i,a,w,hl,hi,hC,h=>by
  have hkl:(full.take k).length=k:=by rw [List.length_take];omega
  have hik:i < k:=by
   rcases Nat.lt_or_ge i k with q | q
   ·exact q
   ·rw [List.drop_eq_nil_of_le (by omega)] at hl;cases hl
  have ho:full[i]? =some o:=by
   have q:((full.take k).drop i)[0]? =some o:=by rw [hl];rfl
   rw [List.getElem?_drop,Nat.add_zero,take_at hik] at q
   exact q
  have hl':(full.take k).drop (i+1)=l:=by rw [← List.drop_drop,hl];rfl
  have hr:=rdy_up hx (show i < full.length by omega)
  have q:=hrd i hik
  unfold readB at q
  rw [Bool.and_eq_true,ho] at q
  simp only [Option.map_some,Option.getD_some] at q
  have main:∀ v,YieldsIf P full.toArray C o v a→wpQuiet P full.toArray C (fun a'=>wpListC P full.toArray Q C m k (full.drop k) a' w) l (a.put o.dst v)→wpAnyU P full Q C m (full.length - i) (up full.length i) a w:=fun v hy hn=>by
   have r:=mix_reads hk hx hs hQ hrd hlt hst l (i+1) (a.put o.dst v) w hl' (by omega) hC hn
   rw [show full.length - i=(full.length - (i+1))+1 by omega]
   refine U_first (T:=C) ho hs (fun c a w=>hQ c a o.dst v w) (fun j hj hne hno w w' hh hw=>?_) _ (up full.length i) a w (fun j' oj hj' hne hun hno=>free_up ho q.2 hj' hne hun hno) hr (by rw [up_size];omega) hy hC ?_
   ·refine hh ?_ hw
    rcases Nat.lt_or_ge j m with c | c
    ·exact c
    ·rw [hlt i j hik c hj] at hno;cases hno
   ·rw [up_next (by omega)]
    exact r
  unfold wpQuiet at h
  split at h
  ·rename_i hw
   obtain ⟨v,hv,hn⟩:=h
   exact main v (.inl ⟨hw,fun w hCw=>val_quiet q.1 (hv w hCw)⟩) hn
  ·rename_i hw
   exact main undef (.inr ⟨by simpa using hw,rfl⟩) h
theorem regionMix {id : Nat} {a : Act} (W : World) (C : World → Prop) (k m : Nat) (hm : P.follows .mixedOrders = true) (hO : mixOk full k m = true) (hQ : ∀ c a d v w, Q (.panic c) (Act.put a d v) w → Q (.panic c) a w) (hC : C W.drew)
  (h:wpQuiet P full.toArray C (fun a'=>wpListC P full.toArray Q C m k (full.drop k) a' W.drew) (full.take k) a):(Code.region id full.toArray true).wp P Q a W:=by
 unfold mixOk at hO
 simp only [Bool.and_eq_true,decide_eq_true_eq,List.all_eq_true,List.mem_range,Bool.or_eq_true] at hO
 obtain ⟨o1,o2,o3,o4,o5,o6⟩:=hO
 refine wp_region_any hm (any_of_U (C:=C) (m:=m) _ _ _ _ ?_)
 have q:=mix_reads (P:=P) (Q:=Q) (C:=C) (m:=m) o1 o2 o3 hQ o4 (fun i j h1 h2 h3=>by rcases o5 j h3 with c | c;omega;exact c i h1) (fun i h1 h2=>by rcases o6 i h2 with c | c;omega;exact c) (full.take k) 0 a { W with drawn:=W.drawn+1 } rfl (by omega) hC h
 rw [← up_zero] at q
 simpa using q
/- a world that has all that W has, but for what may be in block g, and perhaps more -/
structure ExtN (W:World) (g:Option Nat) where
 w:World
 os:w.os=W.os
 tape:w.tape=W.tape
 out:w.output=W.output
 size:W.heap.size≤w.heap.size
 blk:∀ b,b < W.heap.size→g≠some b→w.heap[b]? =W.heap[b]?
def CN (W:World) (g:Option Nat) (w':World):Prop:=∃ x:ExtN W g,w'=x.w
theorem CN.drew (W:World) (g:Option Nat):CN W g W.drew:=⟨⟨W.drew,rfl,rfl,rfl,Nat.le_refl _,fun _ _ _=>rfl⟩,rfl⟩
theorem extN_ne (W:World) (g:Option Nat):Nonempty (ExtN W g):=⟨⟨W,rfl,rfl,rfl,Nat.le_refl _,fun _ _ _=>rfl⟩⟩
theorem ExtN.fit {W:World} {g:Option Nat} {b o:Nat} {v:Value} (h:W.cell? ⟨b,o,none⟩=some v) (hb:b < W.heap.size) (hg:g≠some b):∀ x:ExtN W g,x.w.cell? ⟨b,o,none⟩=some v:=fun x=>(World.cell?_of_block (w:=W) (x.blk b hb hg)).trans h
theorem CN.on {W:World} {g:Option Nat} {w w':World} (h:CN W g w) (h1:w'.os=w.os) (h2:w'.tape=w.tape) (h3:w'.output=w.output) (h4:w.heap.size≤w'.heap.size) (h5:∀ b,b < w.heap.size→g≠some b→w'.heap[b]? =w.heap[b]?):CN W g w':=by
 obtain ⟨x,rfl⟩:=h
 exact ⟨⟨w',h1.trans x.os,h2.trans x.tape,h3.trans x.out,Nat.le_trans x.size h4,fun b hb hg=>(h5 b (Nat.lt_of_lt_of_le hb x.size) hg).trans (x.blk b hb hg)⟩,rfl⟩
theorem CN.below {W:World} {g:Option Nat} {w w':World} (h:CN W g w) (hb:Below w.heap.size w w'):CN W g w':=h.on hb.os hb.tape hb.output hb.size (fun b h1 _=>hb.block b h1)
theorem CN.grown {W:World} {g:Option Nat} {w w':World} (h:CN W g w) (hb:w.grownBy w' g):CN W g w':=h.on hb.os hb.tape hb.output hb.size (fun b h1 h2=>hb.block b h1 (fun e=>h2 e.symm))
/- the same, several blocks left out -/
structure ExtP (W:World) (E:Nat→Prop) where
 w:World
 os:w.os=W.os
 tape:w.tape=W.tape
 out:w.output=W.output
 size:W.heap.size≤w.heap.size
 blk:∀ b,b < W.heap.size→¬ E b→w.heap[b]? =W.heap[b]?
def CP (W:World) (E:Nat→Prop) (w':World):Prop:=∃ x:ExtP W E,w'=x.w
theorem CP.drew (W:World) (E:Nat→Prop):CP W E W.drew:=⟨⟨W.drew,rfl,rfl,rfl,Nat.le_refl _,fun _ _ _=>rfl⟩,rfl⟩
theorem extP_ne (W:World) (E:Nat→Prop):Nonempty (ExtP W E):=⟨⟨W,rfl,rfl,rfl,Nat.le_refl _,fun _ _ _=>rfl⟩⟩
theorem ExtP.fit {W:World} {E:Nat→Prop} {b o:Nat} {v:Value} (h:W.cell? ⟨b,o,none⟩=some v) (hb:b < W.heap.size) (hg:¬ E b):∀ x:ExtP W E,x.w.cell? ⟨b,o,none⟩=some v:=fun x=>(World.cell?_of_block (w:=W) (x.blk b hb hg)).trans h
theorem CP.on {W:World} {E:Nat→Prop} {w w':World} (h:CP W E w) (h1:w'.os=w.os) (h2:w'.tape=w.tape) (h3:w'.output=w.output) (h4:w.heap.size≤w'.heap.size) (h5:∀ b,b < w.heap.size→¬ E b→w'.heap[b]? =w.heap[b]?):CP W E w':=by
 obtain ⟨x,rfl⟩:=h
 exact ⟨⟨w',h1.trans x.os,h2.trans x.tape,h3.trans x.out,Nat.le_trans x.size h4,fun b hb hg=>(h5 b (Nat.lt_of_lt_of_le hb x.size) hg).trans (x.blk b hb hg)⟩,rfl⟩
theorem CP.below {W:World} {E:Nat→Prop} {w w':World} (h:CP W E w) (hb:Below w.heap.size w w'):CP W E w':=h.on hb.os hb.tape hb.output hb.size (fun b h1 _=>hb.block b h1)
end
end
end Go.Proofs.YtlbeploopclegaaGreat
