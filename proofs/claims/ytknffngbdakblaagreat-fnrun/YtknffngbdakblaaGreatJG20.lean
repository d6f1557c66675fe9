/- l1Draw: whatever program is drawn, it is read as one, of few and short lists. Conditions: the cursor and its bytes lie in memory as the reading says. A drawn source spoiled: a number of it written over; another trace. No condition. A drawn source spoiled: a thread's place, register or state, a channel's room. No condition. A drawn source spoiled: another program, another trace. No condition. -/
import Derived.Test.YtknffngbdakblaaGreatJG00
import Derived.Test.YtknffngbdakblaaGreatJG01
import Derived.Test.YtknffngbdakblaaGreatJDrawR
import Derived.Test.YtknffngbdakblaaGreatJG19
import Derived.Test.YtknffngbdakblaaGreatJG06
import Derived.Test.YtknffngbdakblaaGreatJG08
import Derived.Test.YtknffngbdakblaaGreatJG10
import Derived.Deep.RegionLaw
namespace Go.Proofs.YtknffngbdakblaaGreat
section
set_option linter.unusedSimpArgs false
set_option linter.unusedVariables false
set_option maxRecDepth 100000
open Go.RowKit
theorem drawQ_any (p : Nat) (s : Option Addr) (n c : Nat) (w : World) (h : CB w p s n c) :
  Calls Tryz.prog 42 #[.pointer (some ⟨p,0,none⟩)] w fun e w'=>∃ (v0 v1:Value),e=.returned (.agg #[v0,v1])∧PgQ w' w.heap.size v0 v1∧CB w' p s n c∧But p w w':=by
 refine (draw_cb2 p s n c w h).mono ?_
 rintro e w1 ⟨v0,v1,a,b,rfl,h0,h1,ha,hb,hbut,hcb⟩
 obtain ⟨s0,c0,l0,e0,q0,r0⟩:=h0.ints
 obtain ⟨s1,c1,l1,e1,q1,q2,r1⟩:=h1.bods
 subst e0 e1
 exact ⟨_,_,rfl,⟨w1.heap.size,s0,s1,c0,c1,⟨l0,l1⟩,rfl,rfl,⟨r0,r1⟩,⟨by show l0.length≤_;omega,by show l1.length≤_;omega,fun i hi=>by have:=q2 i hi;show (l1.getD i []).length≤_;omega⟩,Nat.le_refl _⟩,hcb,hbut⟩
end
section
set_option linter.unusedSimpArgs false
set_option linter.unusedVariables false
set_option maxRecDepth 100000
open Go.RowKit
/- nothing is spoiled -/
theorem DL.asIs {w V:World} {cu:Nat} {s:Option Addr} {n c P S lo hi base:Nat} {p1 p2:Option Addr} {a1 a2:Nat} {pd:PD} {x1 x2 x3:Value} {L1 L2:List (Rec×Value)} {D:SD} (h:DL w V cu s n c P S lo hi base p1 p2 a1 a2 pd x1 x2 x3 L1 L2 D) (hb:pd.bods.length≤4):EndS w V cu s n c P S (.slice p1 pd.caps.length a1) (.slice p2 pd.bods.length a2) x1 x2 x3:=
 ⟨h.rb,h.k0,h.k1,h.sb,h.pgq,h.srq hb,by have:=h.o2;have:=h.o3;have:=h.o4;have:=h.o5;omega,by have:=h.o2;have:=h.o3;have:=h.o4;have:=h.o5;have:=h.o6;omega,by have:=h.o6;have:=h.o7;omega⟩
/- a number of the source's own rows is written over -/
theorem DL.spoil {w V:World} {cu:Nat} {s:Option Addr} {n c P S lo hi base:Nat} {p1 p2:Option Addr} {a1 a2:Nat} {pd:PD} {x1 x2 x3:Value} {L1 L2:List (Rec×Value)} {D:SD} (h:DL w V cu s n c P S lo hi base p1 p2 a1 a2 pd x1 x2 x3 L1 L2 D) {g j:Nat} {v:Value} (hg1:base≤g) (hg2:g < P) {M1 M2:List (Rec×Value)} {E:SD} (hO:OwnS (V.setCell ⟨g,j,none⟩ v) base x1 x2 x3 M1 M2 E) (hF:SFits E) (hN:NtOk E.tr):EndS w (V.setCell ⟨g,j,none⟩ v) cu s n c P S (.slice p1 pd.caps.length a1) (.slice p2 pd.bods.length a2) x1 x2 x3:=by
 have o2:=h.o2
 have o3:=h.o3
 have o4:=h.o4
 have o5:=h.o5
 have o6:=h.o6
 have o7:=h.o7
 obtain ⟨V',hV⟩:∃ V',V.setCell ⟨g,j,none⟩ v=V':=⟨_,rfl⟩
 have B:∀ k,k≠g→V'.heap[k]? =V.heap[k]? :=fun k a=>by rw [← hV];exact Below.heap_setCell _ ⟨g,j,none⟩ _ k a
 have hs:V'.heap.size=V.heap.size:=by rw [← hV];simp
 have hrb:RB5 w V' cu s n c:=by rw [← hV];exact h.rb.set (by omega)
 rw [hV] at hO ⊢
 obtain ⟨s1,c1,s2,c2,s3,c3,e1,e2,e3,hr⟩:=hO.src
 refine ⟨hrb,(World.cell?_of_block (w:=V) (a:=⟨P,0,none⟩) (B P (by omega))).trans h.k0,(World.cell?_of_block (w:=V) (a:=⟨P,1,none⟩) (B P (by omega))).trans h.k1,h.sb.keep (B S (by omega)) (by omega),⟨hi,p1,p2,a1,a2,pd,rfl,rfl,?_,h.hf,by omega⟩,⟨V'.heap.size,s1,s2,s3,c1,c2,c3,E,e1,e2,e3,hr.mono (by omega) (Nat.le_refl _),hF,hN,Nat.le_refl _⟩,by omega,by omega,by omega⟩
 have hp:ProgR V' lo hi p1 p2 pd:=h.pg.keep' (fun k a b=>B k (by omega))
 exact ⟨hp.1.mono o2 (Nat.le_refl _),hp.2.mono o2 (Nat.le_refl _)⟩
end
section
set_option linter.unusedSimpArgs false
set_option linter.unusedVariables false
set_option maxRecDepth 100000
open Go.RowKit
theorem OwnS.setCap {w : World} {base g c : Nat} {v1 v3 : Value} {L1 L2 : List (Rec × Value)} {d : SD} (h : OwnS w base v1 (.slice (some ⟨g, 0, none⟩) d.chs.length c) v3 L1 L2 d) {k : Nat} {t : CD} (ht : d.chs[k]? = some t) (z : Int) :
  ∃ L2',OwnS (w.setCell ⟨g,k * 3,none⟩ (.int .i64 z)) base v1 (.slice (some ⟨g,0,none⟩) d.chs.length c) v3 L1 L2' ⟨d.ths,d.chs.set k ⟨z,t.list,t.cl⟩,d.tr⟩:=by
 obtain ⟨g',c',x,hv,hx,e,-⟩:=h.chanAt ht
 have hl:=h.l2
 have hr:=h.c.row
 rw [hl] at hr
 have hne:∀ {e':TypeId} {size n:Nat} {v:Value} {xs:List Value} (j:Nat) (u:Value),w.ownsRow base e' size v n xs→e'≠65→∀ b,v.ownBlock=some b→(w.setCell ⟨g,j,none⟩ u).heap[b]? =w.heap[b]? :=fun j u hv hne b hb=>Below.heap_setCell _ _ _ b (fun eb=>ownType' hv hr hne hb (by rw [eb];rfl))
 have far:∀ (j:Nat) (u:Value),OwnQ (w.setCell ⟨g,j,none⟩ u) base 49 v1 L1∧OwnD (w.setCell ⟨g,j,none⟩ u) base v3 d.tr:=fun j u=>⟨h.t.keepB (hne j u h.t.row (by decide)) (fun i y hy=>hne j u (h.t.inn i y hy) (by decide)),ownKeep' h.n (hne j u h.n (by decide))⟩
 have sp:∀ (y:Rec×Value),y.2=x.2→∀ (i j:Nat) (p q:Rec×Value) (b:Nat),L1[i]? =some p→(L2.set k y)[j]? =some q→p.2.ownBlock=some b→q.2.ownBlock≠some b:=fun y hy i j p q b hp hq=>by
  rcases set_at hq with ⟨rfl,rfl,-⟩ | ⟨-,hq⟩
  ·rw [hy];exact h.sep i _ p x b hp hx
  ·exact h.sep i j p q b hp hq
 have sq:∀ (y:Rec×Value),y.2=x.2→∀ (i:Nat) (z:Rec×Value) (b:Nat),i≠k→L2[i]? =some z→y.2.ownBlock=some b→z.2.ownBlock≠some b:=fun y hy i z b hi hz=>by rw [hy];exact h.c.sep k i x z b hx hz (Ne.symm hi)
 have hxo:=h.c.inn k x hx
 refine ⟨L2.set k (⟨.int .i64 z,x.1.l,x.1.z⟩,x.2),⟨h.e1,?_,(far _ _).1,?_,(far _ _).2,sp _ rfl⟩⟩
 ·rw [List.map_set,List.map_set,h.e2,e];rfl
 ·have r:=(World.ownsRow.stored hr (k * 3) (.int .i64 z)).1
  rw [(flatR_set L2 k x hx _).1] at r
  have q:=OwnQ.upd (k:=k) (y:=(⟨.int .i64 z,x.1.l,x.1.z⟩,x.2)) h.c (by rw [hl];exact r) (ownKeep' hxo (hne _ _ hxo (by decide))) (fun i z' hi hz'=>hne _ _ (h.c.inn i z' hz') (by decide)) (sq _ rfl)
  exact q
theorem fits_ths {D:SD} (h:SFits D) (k:Nat) (y:TD) (hy:y.regs.length≤1048576):SFits ⟨D.ths.set k y,D.chs,D.tr⟩:=by
 refine ⟨⟨by show (D.ths.set k y).length≤_;rw [List.length_set];exact h.1.1,fun i t ht=>?_⟩,h.2⟩
 rcases set_at (show (D.ths.set k y)[i]? =some t from ht) with ⟨-,rfl,-⟩ | ⟨-,ht⟩
 ·exact hy
 ·exact h.1.2 i t ht
theorem fits_chs {D:SD} (h:SFits D) (k:Nat) (y:CD) (hy:y.list.length≤1048576):SFits ⟨D.ths,D.chs.set k y,D.tr⟩:=by
 refine ⟨h.1,⟨by show (D.chs.set k y).length≤_;rw [List.length_set];exact h.2.1.1,fun i t ht=>?_⟩,h.2.2⟩
 rcases set_at (show (D.chs.set k y)[i]? =some t from ht) with ⟨-,rfl,-⟩ | ⟨-,ht⟩
 ·exact hy
 ·exact h.2.1.2 i t ht
theorem DL.thr0 {w V : World} {cu : Nat} {s : Option Addr} {n c P S lo hi base : Nat} {p1 p2 : Option Addr} {a1 a2 : Nat} {pd : PD} {x1 x2 x3 : Value} {L1 L2 : List (Rec × Value)} {D : SD} (h : DL w V cu s n c P S lo hi base p1 p2 a1 a2 pd x1 x2 x3 L1 L2 D) (hb : 1 ≤ pd.bods.length ∧ pd.bods.length ≤ 4) : ∃ (g c1 gr cr : Nat) (t : TD), x1 = .slice (some ⟨g, 0, none⟩) D.ths.length c1 ∧ 1 ≤ D.ths.length ∧ base ≤ g ∧ g < P ∧ base ≤ gr ∧ gr < P ∧ V.cell? ⟨g, 0, none⟩ = some (.int .i64 t.pc) ∧ V.cell? ⟨g, 1, none⟩ = some (.slice (some ⟨gr, 0, none⟩) 4 cr) ∧ V.cell? ⟨g, 2, none⟩ = some (.int .i64 t.st) ∧ (∀ j, V.frozen? ⟨g, j, none⟩ = false) ∧ V.cell? ⟨gr, 0, none⟩ = some (.int .i64 (t.regs.getD 0 0)) ∧ (∀ j, V.frozen? ⟨gr, j, none⟩ = false) ∧
  (∀ z,EndS w (V.setCell ⟨g,0,none⟩ (.int .i64 z)) cu s n c P S (.slice p1 pd.caps.length a1) (.slice p2 pd.bods.length a2) x1 x2 x3)∧(∀ z,EndS w (V.setCell ⟨g,2,none⟩ (.int .i64 z)) cu s n c P S (.slice p1 pd.caps.length a1) (.slice p2 pd.bods.length a2) x1 x2 x3)∧(∀ z,EndS w (V.setCell ⟨gr,0,none⟩ (.int .i64 z)) cu s n c P S (.slice p1 pd.caps.length a1) (.slice p2 pd.bods.length a2) x1 x2 x3):=by
 have hok:=h.ok
 unfold srcB thsB allB at hok
 simp only [Bool.and_eq_true,decide_eq_true_eq] at hok
 have hlen:=hok.2.1.1
 have h0:0 < D.ths.length:=by omega
 obtain ⟨t,ht⟩:∃ t,D.ths[0]? =some t:=⟨_,List.getElem?_eq_getElem h0⟩
 have htb:=hok.2.1.2 0 t ht
 unfold thB at htb
 simp only [Bool.and_eq_true,decide_eq_true_eq] at htb
 have h4:=htb.1
 obtain ⟨g,c1,x,e1,hx,ex,g1,g2,q0,q1,q2,qf⟩:=h.ow.thread ht
 obtain ⟨gr,cr,er,r1,r2,rc,rf⟩:=h.ow.regs hx ex h4
 subst e1
 have hgP:g < P:=h.fa g (.inl (.inl rfl))
 have hrP:gr < P:=h.fa gr (.inl (.inr ⟨0,x,hx,by rw [er];rfl⟩))
 rw [er] at q1
 simp only [Nat.zero_mul,Nat.zero_add] at q0 q1 q2
 refine ⟨g,c1,gr,cr,t,rfl,h0,g1,hgP,r1,hrP,q0,q1,q2,qf,rc 0 (by omega),rf,fun z=>?_,fun z=>?_,fun z=>?_⟩
 ·obtain ⟨⟨M,o,-⟩,-⟩:=h.ow.setT ht z
  simp only [Nat.zero_mul,Nat.zero_add] at o
  exact h.spoil g1 hgP o (fits_ths h.hF 0 _ (by show t.regs.length≤_;omega)) (show NtOk D.tr from NtOk.of h.ok hb.2)
 ·obtain ⟨-,⟨M,o,-⟩⟩:=h.ow.setT ht z
  simp only [Nat.zero_mul,Nat.zero_add] at o
  exact h.spoil g1 hgP o (fits_ths h.hF 0 _ (by show t.regs.length≤_;omega)) (show NtOk D.tr from NtOk.of h.ok hb.2)
 ·obtain ⟨M,-,o,-⟩:=h.ow.setR hx ht er h4 0 z
  exact h.spoil r1 hrP o (fits_ths h.hF 0 _ (by show (t.regs.set 0 z).length≤_;rw [List.length_set];omega)) (show NtOk D.tr from NtOk.of h.ok hb.2)
theorem DL.chn0 {w V:World} {cu:Nat} {s:Option Addr} {n c P S lo hi base:Nat} {p1 p2:Option Addr} {a1 a2:Nat} {pd:PD} {x1 x2 x3:Value} {L1 L2:List (Rec×Value)} {D:SD} (h:DL w V cu s n c P S lo hi base p1 p2 a1 a2 pd x1 x2 x3 L1 L2 D) (hc:1≤pd.caps.length) (hb:pd.bods.length≤4):∃ (g c2:Nat) (t:CD),x2=.slice (some ⟨g,0,none⟩) D.chs.length c2∧1≤D.chs.length∧base≤g∧g < P∧(1≤t.cap∧t.cap≤4)∧V.cell? ⟨g,0,none⟩=some (.int .i64 t.cap)∧(∀ j,V.frozen? ⟨g,j,none⟩=false)∧(∀ z,EndS w (V.setCell ⟨g,0,none⟩ (.int .i64 z)) cu s n c P S (.slice p1 pd.caps.length a1) (.slice p2 pd.bods.length a2) x1 x2 x3):=by
 have hok:=h.ok
 unfold srcB chsB allB at hok
 simp only [Bool.and_eq_true,decide_eq_true_eq] at hok
 have hlen:=hok.2.2.1.1
 have h0:0 < D.chs.length:=by omega
 obtain ⟨t,ht⟩:∃ t,D.chs[0]? =some t:=⟨_,List.getElem?_eq_getElem h0⟩
 have htb:=hok.2.2.1.2 0 t ht
 unfold chB at htb
 simp only [Bool.and_eq_true,decide_eq_true_eq] at htb
 obtain ⟨g,c2,x,e2,hx,ex,g1,g2,q0,q1,q2,qf⟩:=h.ow.chanAt ht
 subst e2
 have hgP:g < P:=h.fa g (.inr (.inl (.inl rfl)))
 simp only [Nat.zero_mul,Nat.zero_add] at q0 q1 q2
 refine ⟨g,c2,t,rfl,h0,g1,hgP,of_decide_eq_true htb.1.1,q0,qf,fun z=>?_⟩
 obtain ⟨M,o⟩:=h.ow.setCap ht z
 simp only [Nat.zero_mul,Nat.zero_add] at o
 exact h.spoil g1 hgP o (fits_chs h.hF 0 _ (h.hF.2.1.2 0 t ht)) (show NtOk D.tr from NtOk.of h.ok hb)
/- another trace -/
theorem DL.trc {w V:World} {cu:Nat} {s:Option Addr} {n c P S lo hi base:Nat} {p1 p2:Option Addr} {a1 a2:Nat} {pd:PD} {x1 x2 x3:Value} {L1 L2:List (Rec×Value)} {D:SD} (h:DL w V cu s n c P S lo hi base p1 p2 a1 a2 pd x1 x2 x3 L1 L2 D) {V':World} {v4:Value} {tr:List ND} (hrb:RB5 w V' cu s n c) (hk:∀ k,w.heap.size+2≤k→k < V.heap.size→x3.ownBlock≠some k→V'.heap[k]? =V.heap[k]?) (hs:V.heap.size≤V'.heap.size) (ho:OwnD V' base v4 tr) (hl:tr.length≤1048576) (hN:NtOk tr):EndS w (V'.setCell ⟨S,2,none⟩ v4) cu s n c P S (.slice p1 pd.caps.length a1) (.slice p2 pd.bods.length a2) x1 x2 v4:=by
 have o2:=h.o2
 have o3:=h.o3
 have o4:=h.o4
 have o5:=h.o5
 have o6:=h.o6
 have o7:=h.o7
 have n3:∀ k,x3.ownBlock=some k→base≤k∧k < P:=fun k e=>⟨(World.ownsRow.lt h.ow.n _ e).1,h.fa k (.inr (.inr e))⟩
 have K:∀ k,w.heap.size+2≤k→k < base→V'.heap[k]? =V.heap[k]? :=fun k a b=>hk k a (by omega) (fun e=>by have:=n3 k e;omega)
 have KP:=hk P (by omega) (by omega) (fun e=>by have:=n3 P e;omega)
 have KS:=hk S (by omega) (by omega) (fun e=>by have:=n3 S e;omega)
 have o':OwnS V' base x1 x2 v4 L1 L2 ⟨D.ths,D.chs,tr⟩:=by
  have far:∀ {e':TypeId} {size m:Nat} {v:Value} {xs:List Value},V.ownsRow base e' size v m xs→e'≠67→∀ k,v.ownBlock=some k→V'.heap[k]? =V.heap[k]? :=fun hv hne k e=>hk k (by have:=(World.ownsRow.lt hv _ e).1;omega) (World.ownsRow.lt hv _ e).2 (fun e3=>ownType' hv h.ow.n hne e e3)
  exact ⟨h.ow.e1,h.ow.e2,h.ow.t.keepB (far h.ow.t.row (by decide)) (fun i y hy=>far (h.ow.t.inn i y hy) (by decide)),h.ow.c.keepB (far h.ow.c.row (by decide)) (fun i y hy=>far (h.ow.c.inn i y hy) (by decide)),ho,h.ow.sep⟩
 have sx':BxS V' S:=h.sx.same KS
 have sb':BoF S V' x1 x2 x3:=h.sb.keep KS hs
 have oo:=o'.offB (j:=2) (u:=v4) sx'
 have hrb':=hrb.set (g:=S) (j:=2) (v:=v4) (by omega)
 have sb'':=sb'.set2 v4
 obtain ⟨V2,hV⟩:∃ V2,V'.setCell ⟨S,2,none⟩ v4=V2:=⟨_,rfl⟩
 have B:∀ k,k≠S→V2.heap[k]? =V'.heap[k]? :=fun k a=>by rw [← hV];exact Below.heap_setCell _ ⟨S,2,none⟩ _ k a
 have hs2:V2.heap.size=V'.heap.size:=by rw [← hV];simp
 rw [hV] at oo hrb' sb'' ⊢
 obtain ⟨s1,c1,s2,c2,s3,c3,e1,e2,e3,hr⟩:=oo.src
 have hp:ProgR V2 lo hi p1 p2 pd:=h.pg.keep' (fun k a b=>(B k (by omega)).trans (K k (by omega) (by omega)))
 have BP:=(B P (by omega)).trans KP
 exact ⟨hrb',(World.cell?_of_block (w:=V) (a:=⟨P,0,none⟩) BP).trans h.k0,(World.cell?_of_block (w:=V) (a:=⟨P,1,none⟩) BP).trans h.k1,sb'',⟨hi,p1,p2,a1,a2,pd,rfl,rfl,⟨hp.1.mono o2 (Nat.le_refl _),hp.2.mono o2 (Nat.le_refl _)⟩,h.hf,by omega⟩,⟨V2.heap.size,s1,s2,s3,c1,c2,c3,_,e1,e2,e3,hr.mono (by omega) (Nat.le_refl _),⟨h.hF.1,h.hF.2.1,hl⟩,hN,Nat.le_refl _⟩,by omega,by omega,by omega⟩
end
section
set_option linter.unusedSimpArgs false
set_option linter.unusedVariables false
set_option maxRecDepth 100000
open Go.RowKit Go.Deep
theorem PgQ.low {V:World} {lo lo':Nat} {v0 v1:Value} (h:PgQ V lo v0 v1) (hl:lo'≤lo):PgQ V lo' v0 v1:=by
 obtain ⟨hi,p1,p2,a1,a2,pd,e0,e1,hp,hf,hB⟩:=h
 exact ⟨hi,p1,p2,a1,a2,pd,e0,e1,⟨hp.1.mono hl (Nat.le_refl _),hp.2.mono hl (Nat.le_refl _)⟩,hf,hB⟩
theorem DL.prg {w V:World} {cu:Nat} {s:Option Addr} {n c P S lo hi base:Nat} {p1 p2:Option Addr} {a1 a2:Nat} {pd:PD} {x1 x2 x3:Value} {L1 L2:List (Rec×Value)} {D:SD} (h:DL w V cu s n c P S lo hi base p1 p2 a1 a2 pd x1 x2 x3 L1 L2 D) (hb:pd.bods.length≤4) {q:Nat} {v0 v1:Value} (hq:PgQ V q v0 v1) (hqP:P < q):EndS w ((V.setCell ⟨P,0,none⟩ v0).setCell ⟨P,1,none⟩ v1) cu s n c P S v0 v1 x1 x2 x3:=by
 have o2:=h.o2
 have o3:=h.o3
 have o4:=h.o4
 have o5:=h.o5
 have o6:=h.o6
 have o7:=h.o7
 have rb2:=(h.rb.set (g:=P) (j:=0) (v:=v0) (by omega)).set (g:=P) (j:=1) (v:=v1) (by omega)
 have c0:((V.setCell ⟨P,0,none⟩ v0).setCell ⟨P,1,none⟩ v1).cell? ⟨P,0,none⟩=some v0:=(World.cell?_setCell_other _ ⟨P,1,none⟩ ⟨P,0,none⟩ _ (by simp)).trans (World.cell?_setCell_same _ _ _ h.k0)
 have c1:((V.setCell ⟨P,0,none⟩ v0).setCell ⟨P,1,none⟩ v1).cell? ⟨P,1,none⟩=some v1:=World.cell?_setCell_same _ _ _ ((World.cell?_setCell_other _ ⟨P,0,none⟩ ⟨P,1,none⟩ _ (by simp)).trans h.k1)
 obtain ⟨V',hV⟩:∃ V',(V.setCell ⟨P,0,none⟩ v0).setCell ⟨P,1,none⟩ v1=V':=⟨_,rfl⟩
 have B:∀ k,k≠P→V'.heap[k]? =V.heap[k]? :=fun k a=>by rw [← hV];exact (Below.heap_setCell _ ⟨P,1,none⟩ _ k a).trans (Below.heap_setCell _ ⟨P,0,none⟩ _ k a)
 have hs:V'.heap.size=V.heap.size:=by rw [← hV];simp
 rw [hV] at rb2 c0 c1 ⊢
 have oo:=h.ow.keepB (fun k hk=>B k (by have:=h.fa k hk;omega))
 obtain ⟨s1,e1',s2,e2',s3,e3',e1,e2,e3,hr⟩:=oo.src
 exact ⟨rb2,c0,c1,h.sb.keep (B S (by omega)) (by omega),(hq.keep (fun k a _=>B k (by omega)) (by omega)).low (by omega),⟨V'.heap.size,s1,s2,s3,e1',e2',e3',D,e1,e2,e3,hr.mono (by omega) (Nat.le_refl _),h.hF,NtOk.of h.ok hb,Nat.le_refl _⟩,by omega,by omega,by omega⟩
theorem mkN (n:Nat) (hn:n≤1048576) (w:World):(Instr.makeSlice 30 (.int .i64 (n:Int)) (.int .i64 (n:Int))).run Tryz.prog w=.ok (.slice (some ⟨w.heap.size,0,none⟩) n n) (w.alloc (.cells (madeCells #[.int .i64 0,.int .i64 0] (n * 2)) 67)):=by
 have h:=run_make (P:=Tryz.prog) w 30 67 _ (.agg #[.int .i64 0,.int .i64 0]) Tryz.underlying30 rfl rfl .i64 .i64 n n (by omega) (Int.le_refl _) (by show (16:Int) * _≤_;omega) (by omega)
 have e:(Value.agg #[.int .i64 0,.int .i64 0]).cells=#[.int .i64 0,.int .i64 0]:=rfl
 have e':∀ t,Tryz.prog.info? 67=some t→t.size=2:=by intro t h;cases h;rfl
 rw [e,e' _ rfl] at h
 simpa using h
theorem own_made (w:World) (n:Nat) (hn:n≤1048576):OwnD (w.alloc (.cells (madeCells #[.int .i64 0,.int .i64 0] (n * 2)) 67)) w.heap.size (.slice (some ⟨w.heap.size,0,none⟩) n n) (List.replicate n ⟨0,0⟩):=by
 unfold OwnD
 rw [flatN_rep,List.length_replicate]
 exact World.ownsRow_lit w (madeCells #[.int .i64 0,.int .i64 0] (n * 2)) n (Nat.le_refl _) (by unfold maxLen;omega) (by simp [size_madeCells])
theorem ntOk_made (n:Nat):NtOk (List.replicate n ⟨0,0⟩):=by
 intro i t ht
 rw [List.getElem?_replicate] at ht
 split at ht
 ·injection ht with ht
  subst ht
  exact ⟨by show (0:Int)≤0;omega,by show (0:Int)≤15;omega⟩
 ·cases ht
theorem tr_le {p:PD} {D:SD} (h:srcB p D=true):D.tr.length≤4000:=by
 unfold srcB trB at h
 simp only [Bool.and_eq_true,decide_eq_true_eq] at h
 exact h.2.2.2.1
theorem NtOk.snoc {l:List ND} (h:NtOk l) (nd:ND) (hn:0≤nd.who∧nd.who≤15):NtOk (l++[nd]):=by
 intro i t ht
 by_cases hi:i < l.length
 ·rw [List.getElem?_append_left hi] at ht;exact h i t ht
 ·rw [List.getElem?_append_right (by omega)] at ht
  have hi0:i - l.length=0:=by
   have:=(List.getElem?_eq_some_iff.1 ht).1
   simp at this;omega
  rw [hi0] at ht
  simp at ht
  subst ht
  exact hn
theorem step_note {ops : Array Oper} {o : Oper} {a : Act} {w : World} {K : Act → World → Prop} {Q : Exit → Act → World → Prop} {F : Prop} (hgd : o.guard = none) (s x : Operand) (ho : o.op = .call { callee := .builtin .append, args := #[s, x], argTypes := #[30, 30] })
  (base:Nat) (v:Value) (n:Nat) (xs:List Value) (hs:a.eval s=v) (hown:w.ownsRow base 67 2 v n xs) (g0:Nat) (u0 u1:Value) (hu0:u0.oneCell'=true) (hu1:u1.oneCell'=true) (hx:a.eval x=.slice (some ⟨g0,0,none⟩) 1 1) (hc0:w.cell? ⟨g0,0,none⟩=some u0) (hc1:w.cell? ⟨g0,1,none⟩=some u1) (hn:n≤1073741824) (hbase:base≤w.heap.size)
  (h:∀ g cap w',w'.ownsRow base 67 2 (.slice (some ⟨g,0,none⟩) (n+1) cap) (n+1) (xs++[u0,u1])→w.grownBy w' v.ownBlock→(v.ownBlock=some g∨w.heap.size≤g)→g < w'.heap.size→K (a.put o.dst (.slice (some ⟨g,0,none⟩) (n+1) cap)) w'):
  if Region.wanted o (yielded ops a.tmps)=true then Oper.wp Tryz.prog o a w K Q else F:=by
 have hw:Region.wanted o (yielded ops a.tmps)=true:=by simp [Region.wanted,hgd]
 rw [if_pos hw]
 exact wp_note s x ho base v n xs hs hown g0 u0 u1 hu0 hu1 hx hc0 hc1 hn hbase h
end
end Go.Proofs.YtknffngbdakblaaGreat
