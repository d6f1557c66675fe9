/- Memories copied by the specification: l6Copy. Conditions: they are counted. What Load is made of, in the program and in the specification. Conditions: memories that are counted, views of at most 2^20. A write put behind a row of a memory that is owned whole. No condition but those of the lemmas. Store and Swap's last step, in the program and in the specification. Conditions: what is right. laws.eqStep says yes of a step and itself; it makes memory, and turns none. No condition. StepOk of the program, at every step and every count of places, in every world: it returns what the plain law says; it makes memory, and turns none. No condition. -/
import Derived.Test.YtkhjhibigldcgaaLG00
import Derived.Test.YtkhjhibigldcgaaLG04
import Derived.Test.YtkhjhibigldcgaaLG02
import Derived.Test.YtkhjhibigldcgaaLG03
namespace Go.Proofs.Ytkhjhibigldcgaa
section
set_option linter.unusedSimpArgs false
set_option linter.unusedVariables false
set_option maxRecDepth 100000
open Go.RowKit
theorem OW.push {w w1 w2 : World} {B g cap : Nat} {v : Value} {S : List RS} {m : List (List WD)} (r : RS) (l : List WD) (h : OW w B v S m) (hb : Below w.heap.size w w1) (hr : ORow w1 w.heap.size r l) (hB : B ≤ w.heap.size)
  (h2:w2.ownsRow B 78 1 (.slice (some ⟨g,0,none⟩) (S.length+1) cap) (S.length+1) (S.map RS.val++[r.val])) (hg:w1.grownBy w2 v.ownBlock):OW w2 B (.slice (some ⟨g,0,none⟩) (S++[r]).length cap) (S++[r]) (m++[l]):=by
 have hn1:=h.n
 have h1:=h.below hb
 have kp:∀ (r':RS) (l':List WD),ORow w1 B r' l'→ORow w2 B r' l':=fun r' l' q=>by
  refine q.kept (fun k e=>hg.block _ (World.ownsRow.lt q.own _ e).2 (fun e'=>?_)) (fun a ha=>hg.block _ (q.blk ha).2 (fun e'=>?_)) hg.size
  ·obtain ⟨cs,c1⟩:=q.blkT e
   obtain ⟨cs',c2⟩:=rows_blkT h1.row e'.symm
   rw [c1] at c2
   injection c2 with c2
   injection c2 with _ c2
   exact absurd c2 (by decide)
  ·obtain ⟨cs,f,c1⟩:=q.vt a ha
   obtain ⟨cs',c2⟩:=rows_blkT h1.row e'.symm
   rw [c1] at c2
   injection c2 with c2
   injection c2 with _ c2
   exact absurd c2 (by decide)
 refine ⟨by simp [hn1],by simpa using h2,fun i r1 l1 e1 e2=>?_,?_⟩
 ·rcases getElem?_push e1 with e1 | ⟨i1,rfl⟩
  ·rcases getElem?_push e2 with e2 | ⟨i2,rfl⟩
   ·exact kp r1 l1 (h1.r i r1 l1 e1 e2)
   ·have:=(List.getElem?_eq_some_iff.1 e1).1;omega
  ·rcases getElem?_push e2 with e2 | ⟨i2,rfl⟩
   ·have:=(List.getElem?_eq_some_iff.1 e2).1;omega
   ·exact kp r1 l1 (hr.low hB)
 ·rw [mAs_app]
  refine List.nodup_append.2 ⟨h.d,hr.ro.d,fun a ha b hb' e=>?_⟩
  subst e
  have q1:=(h.om.blk ha).2
  have q2:=(hr.ro.blk hb').1
  omega
theorem ownV {w:World} {b c n:Nat} {s:Option Addr} {l:List Int} (h:OwnN w b (.slice s n c) l) (hn:n=l.length):VO w b w.heap.size ⟨s,n,c⟩ l∧(∀ a∈vAs ⟨s,n,c⟩,TyI w a.block)∧(vAs ⟨s,n,c⟩).Nodup∧∀ a∈vAs ⟨s,n,c⟩,b≤a.block:=by
 subst hn
 rcases Nat.eq_zero_or_pos l.length with h0 | hpos
 ·have e:vAs ⟨s,l.length,c⟩=[]:=by simp [vAs,h0]
  rw [e]
  exact ⟨⟨rfl,.inl (List.length_eq_zero_iff.1 h0)⟩,fun a ha=>by simp at ha,by simp,fun a ha=>by simp at ha⟩
 ·obtain ⟨g,cap,e,-⟩:=World.ownsRow.form h hpos
  injection e with e1 e2 e3
  subst e1
  have hlt:=World.ownsRow.lt h g rfl
  have ty:TyI w g:=by
   rcases h.2 with ⟨e,-⟩ | ⟨g',cap',cur,e,-,c',-⟩
   ·cases e
   ·injection e with e;injection e with e;injection e with e
    subst e
    exact ⟨_,_,c'⟩
  refine ⟨⟨rfl,.inr ⟨g,0,rfl,hlt.1,hlt.2,fun i hi'=>⟨?_,World.ownsRow.frozenAt h _⟩⟩⟩,fun a ha=>?_,vAs_nodup (g:=g) (o:=0) rfl,fun a ha=>?_⟩
  ·rw [Nat.zero_add];exact h.cell hi'
  ·obtain ⟨i,-,rfl⟩:=mem_vAs.1 ha;exact ty
  ·obtain ⟨i,-,rfl⟩:=mem_vAs.1 ha;exact hlt.1
theorem infoWr:∃ i,Try.prog.info? 81=some i∧i.zero=some (.agg #[.int .i64 0,.slice none 0 0])∧i.size=2∧i.bytes=32:=⟨_,rfl,rfl,rfl,rfl⟩
theorem wp_rec {o : Oper} {a : Act} {w : World} {K : Act → World → Prop} {Q : Exit → Act → World → Prop} (s x : Operand) (ho : o.op = .call { callee := .builtin .append, args := #[s, x], argTypes := #[78, 78] })
  (base:Nat) (v:Value) (n:Nat) (xs:List Value) (hs:a.eval s=v) (hown:w.ownsRow base 81 2 v n xs) (g0:Nat) (u0 u1:Value) (hu0:u0.oneCell'=true) (hu1:u1.oneCell'=true) (hx:a.eval x=.slice (some ⟨g0,0,none⟩) 1 1) (hc0:w.cell? ⟨g0,0,none⟩=some u0) (hc1:w.cell? ⟨g0,1,none⟩=some u1) (hn:n≤1073741824) (hbase:base≤w.heap.size)
  (h:∀ g cap w',w'.ownsRow base 81 2 (.slice (some ⟨g,0,none⟩) (n+1) cap) (n+1) (xs++[u0,u1])→w.grownBy w' v.ownBlock→(v.ownBlock=some g∨w.heap.size≤g)→g < w'.heap.size→K (a.put o.dst (.slice (some ⟨g,0,none⟩) (n+1) cap)) w'):Oper.wp Try.prog o a w K Q:=by
 obtain ⟨i0,hi,hz0,hz1,hz2⟩:=infoWr
 refine wp_append_lies w s x 78 ho base 81 i0 _ 2 32 Try.underlying78 hi hz0 hz1 hz2 rfl (by decide) v n xs hs hown ⟨g0,0,none⟩ 1 1 [u0,u1] hx rfl (fun j u' hj=>?_) (fun u' hu'=>by simp at hu';rcases hu' with rfl | rfl<;>assumption) (by decide) (by unfold maxLen;omega) (by omega) hbase _ rfl ?_
 ·match j,hj with
  | 0,hj=>simp at hj;subst hj;simpa [Addr.add] using hc0
  | 1,hj=>simp at hj;subst hj;simpa [Addr.add] using hc1
  | j+2,hj=>simp at hj
 ·intro g cap w' q1 q2 q3 q4
  exact h g cap w' q1 q2 (by rcases q3 with q3 | q3<;>first | exact .inl q3 | exact .inr (by omega)) q4
theorem step_rec {ops : Array Oper} {o : Oper} {a : Act} {K : Act → World → Prop} {Q : Exit → Act → World → Prop} {E : Prop} (hgd : o.guard = none) (s x : Operand) (ho : o.op = .call { callee := .builtin .append, args := #[s, x], argTypes := #[78, 78] })
  (w:World) (base:Nat) (v:Value) (n:Nat) (xs:List Value) (hs:a.eval s=v) (hown:w.ownsRow base 81 2 v n xs) (g0:Nat) (u0 u1:Value) (hu0:u0.oneCell'=true) (hu1:u1.oneCell'=true) (hx:a.eval x=.slice (some ⟨g0,0,none⟩) 1 1) (hc0:w.cell? ⟨g0,0,none⟩=some u0) (hc1:w.cell? ⟨g0,1,none⟩=some u1) (hn:n≤1073741824) (hbase:base≤w.heap.size)
  (h:∀ g cap w',w'.ownsRow base 81 2 (.slice (some ⟨g,0,none⟩) (n+1) cap) (n+1) (xs++[u0,u1])→w.grownBy w' v.ownBlock→(v.ownBlock=some g∨w.heap.size≤g)→g < w'.heap.size→K (a.put o.dst (.slice (some ⟨g,0,none⟩) (n+1) cap)) w'):if Region.wanted o (yielded ops a.tmps)=true then Oper.wp Try.prog o a w K Q else E:=by
 have hw:Region.wanted o (yielded ops a.tmps)=true:=by simp [Region.wanted,hgd]
 rw [if_pos hw]
 exact wp_rec s x ho base v n xs hs hown g0 u0 u1 hu0 hu1 hx hc0 hc1 hn hbase h
set_option maxHeartbeats 4000000 in
theorem l6Copy_any (s : Option Addr) (c lo hi : Nat) (m : List (List WD)) (w : World) (h : MemR w lo hi s m) (hB : hi ≤ w.heap.size) (hl : MFits m) :
  Calls Try.prog 64 #[.agg #[.slice s m.length c]] w fun e w'=>∃ v S,e=.returned (.agg #[v])∧OW w' w.heap.size v S m∧Below w.heap.size w w':=by
 have hl1:=hl.n
 have HC:Hid (MemR w lo hi s m):=h
 have HL:Hid (MFits m):=hl
 clear h hl
 go_enter Try.func64,Try.ntmps64
 go_wp2
 go_loopw [4] (fun i wr=>∃ (k:Nat) (v:Value) (S:List RS),k≤m.length∧i=.int .i64 k∧S.length=k∧OW wr (w.heap.size+3) v S (m.take k)∧wr.cell? ⟨w.heap.size,0,none⟩=some (.slice s m.length c)∧wr.cell? ⟨w.heap.size+1+1,0,none⟩=some v∧(wr.cell? ⟨w.heap.size+1,0,none⟩).isSome=true∧(∀ j,wr.frozen? ⟨w.heap.size+1+1,j,none⟩=false)∧(∀ j,wr.frozen? ⟨w.heap.size+1,j,none⟩=false)∧w.heap.size+1+1 < wr.heap.size∧Below w.heap.size w wr) (fun i _=>m.length - (intOf i).toNat)
 case atStart=>exact ⟨0,.slice none 0 0,[],Nat.zero_le _,rfl,rfl,OW.nil _ _,by simp [go_sem],by simp [go_sem],by simp [go_sem],fun j=>by simp [go_sem],fun j=>by simp [go_sem],by simp,(((Below.refl _ _).alloc (Nat.le_refl _) _).alloc (by simp) _).alloc (by simp;omega) _⟩
 case round=>
  obtain ⟨k,v,S,hk,rfl,hS,ho,c0,c2,c1,f2,f1,hz,hb⟩:=hrel
  obtain ⟨sv,cv,hv,-⟩:=ho.om.mo
  have tl:(m.take k).length=k:=by simp;omega
  rw [tl] at hv
  subst hv
  have HO:Hid (OW wr (w.heap.size+3) (.slice sv k cv) S (m.take k)):=ho
  have HB:Hid (Below w.heap.size w wr):=hb
  have HS:Hid (S.length=k):=hS
  have HC1:Hid ((wr.cell? ⟨w.heap.size+1,0,none⟩).isSome=true):=c1
  have HF1:Hid (∀ j,wr.frozen? ⟨w.heap.size+1,j,none⟩=false):=f1
  have z0:w.heap.size < wr.heap.size:=by omega
  have z1:w.heap.size+1 < wr.heap.size:=by omega
  have z3:w.heap.size+3≤wr.heap.size:=by omega
  clear ho hb hS c1 f1 tl
  by_cases hlt:k < m.length
  ·obtain ⟨x,hx⟩:∃ x,m[k]? =some x:=⟨_,List.getElem?_eq_getElem hlt⟩
   obtain ⟨g,o,s1,cx,e1,q1,q2,q3,q5⟩:=(HC.out.keep (Keep.of_below HB.out hB)).row hx
   subst e1
   have HI:Hid (WsR wr lo hi s1 x):=q5
   have hxl:=HL.out.r hx
   have HXV:Hid (∀ (i:Nat) (y:WD),x[i]? =some y→y.vw.length≤1048576):=fun i y hy=>by have:=szV_at x i y hy;omega
   have hxn:x.length≤1048576:=by omega
   have HT:Hid (m.take (k+1)=m.take k++[x]):=by show _=_;rw [List.take_add_one,hx];rfl
   have b0:(0:Int)≤(k:Int):=by omega
   have b1:(k:Int) < (m.length:Int):=by omega
   have zg:g < wr.heap.size:=by omega
   clear hx q5 hxl
   go_wp2
   rename World=>wo
   go_loopw [5,6] (fun u i wr=>∃ (j:Nat) (r:RS),j≤x.length∧i=.int .i64 j∧u=.slice r.s j r.c∧r.vs.length=j∧ORow wr wo.heap.size r (x.take j)∧Below wo.heap.size wo wr) (fun _ i _=>x.length - (intOf i).toNat)
   case atStart=>
    refine ⟨0,⟨some ⟨wo.heap.size,0,none⟩,0,[]⟩,Nat.zero_le _,rfl,rfl,rfl,⟨rfl,?_,fun i x y h=>by simp at h,fun a ha=>by simp [vsA] at ha,by simp [vsA]⟩,(Below.refl _ _).alloc (Nat.le_refl _) _⟩
    exact World.ownsRow_lit wo #[] 0 (Nat.le_refl _) (by unfold maxLen;omega) rfl
   case round=>
    obtain ⟨j,r,hj,rfl,rfl,hrl,hro,hbo⟩:=hrel
    have HRO:Hid (ORow wr wo.heap.size r (x.take j)):=hro
    have HBO:Hid (Below wo.heap.size wo wr):=hbo
    have HRL:Hid (r.vs.length=j):=hrl
    have d0:=(hbo.cell (p:=⟨w.heap.size,0,none⟩) z0).trans c0
    have d1:=(hbo.cell (p:=⟨g,o+k,none⟩) zg).trans q3
    have d2:=(hbo.cell (p:=⟨w.heap.size+1+1,0,none⟩) hz).trans c2
    have d3:∀ j,wr.frozen? ⟨w.heap.size+1+1,j,none⟩=false:=fun j=>(hbo.frozen (p:=⟨w.heap.size+1+1,j,none⟩) hz).trans (f2 j)
    have y0:=hbo.size
    have y1:w.heap.size < wr.heap.size:=by omega
    have y2:g < wr.heap.size:=by omega
    have y3:w.heap.size+1+1 < wr.heap.size:=by omega
    clear hro hbo hrl
    by_cases hjt:j < x.length
    ·obtain ⟨y,hy⟩:∃ y,x[j]? =some y:=⟨_,List.getElem?_eq_getElem hjt⟩
     obtain ⟨g',o',s2,cy,e2,r1,r2,r3,r4,r5⟩:=(HI.out.keep (Keep.of_below HBO.out (by omega))).at hy
     subst e2
     have HY:Hid (IntsR (wr.drew.alloc (.cells #[] 3)) lo hi s2 y.vw):=IntsR.keep (w:=wr) r5 (Keep.of_below (B:=wr.heap.size) ((Below.drew (Below.refl _ _)).alloc (Nat.le_refl _) _) (by omega))
     have hyl:=HXV.out j y hy
     have HTy:Hid (x.take (j+1)=x.take j++[y]):=by show _=_;rw [List.take_add_one,hy];rfl
     have b2:(0:Int)≤(j:Int):=by omega
     have b3:(j:Int) < (x.length:Int):=by omega
     have y4:g' < wr.heap.size:=by omega
     have n1:¬ wr.heap.size=w.heap.size:=by omega
     have n2:¬ wr.heap.size=g:=by omega
     have n3:¬ wr.heap.size=g':=by omega
     clear hy r5
     go_wp2_with fail
     go_region_held3 (fun w'=>w'.cell? ⟨w.heap.size,0,none⟩=some (.slice (some ⟨g,o,none⟩) m.length c)∧w'.cell? ⟨g,o+k,none⟩=some (.slice (some ⟨g',o',none⟩) x.length cx)∧w'.cell? ⟨g',o'+j * 2,none⟩=some (.int .i64 y.v)∧w'.cell? ⟨g',o'+j * 2+1,none⟩=some (.slice s2 y.vw.length cy)) (go_keep) (first | (refine step_copyI rfl _ _ rfl rfl _ wr.heap.size (some ⟨wr.heap.size,0,none⟩) 0 rfl (ownN_empty (w:=wr.drew) (Nat.le_refl _)) s2 cy y.vw rfl HY.out (by omega) (by simp) ?_;intro s5 c5 w5 ho5 hc5;have hb5:Below wr.heap.size wr w5:=((Below.drew (Below.refl _ _)).alloc (Nat.le_refl _) _).trans hc5.low;have t0:=(hb5.cell (p:=⟨w.heap.size,0,none⟩) y1).trans d0;have t1:=(hb5.cell (p:=⟨g,o+k,none⟩) y2).trans d1;have t2:=(hb5.cell (p:=⟨g',o'+j * 2,none⟩) y4).trans r3;have t3:=(hb5.cell (p:=⟨g',o'+j * 2+1,none⟩) y4).trans r4;have z5:=hb5.size;have n4:w.heap.size < w5.heap.size:=(by omega);have n5:g < w5.heap.size:=(by omega);have n6:g' < w5.heap.size:=(by omega);have HRO5:Hid (ORow (w5.alloc (.cells #[.int .i64 y.v,.slice s5 y.vw.length c5] 81)) wo.heap.size r (x.take j)):=(HRO.out.below hb5).below ((Below.refl _ _).alloc (Nat.le_refl _) _);have HOW5:Hid ((w5.alloc (.cells #[.int .i64 y.v,.slice s5 y.vw.length c5] 81)).ownsRow wo.heap.size 81 2 (.slice r.s j r.c) j (flatV r.vs (x.take j))):=(by have:=HRO5.out.own;unfold RS.val at this;rw [HRL.out] at this;exact this)) | (refine step_rec rfl _ _ rfl (w5.alloc (.cells #[.int .i64 y.v,.slice s5 y.vw.length c5] 81)) wo.heap.size (.slice r.s j r.c) j (flatV r.vs (x.take j)) rfl HOW5.out w5.heap.size (.int .i64 y.v) (.slice s5 y.vw.length c5) rfl rfl rfl (by simp [go_sem]) (by simp [go_sem]) (by omega) (by simp;omega) ?_;intro g6 c6 w6 ho6 hg6 hn6 hl6;have hb6:Below wo.heap.size w5 w6:=Below.grown ((Below.refl _ _).alloc (by omega) _) hg6 (by simp;omega) (fun b hb=>(World.ownsRow.lt HOW5.out b hb).1);have p0:=(hb6.cell (p:=⟨w.heap.size,0,none⟩) z0).trans t0;have p1:=(hb6.cell (p:=⟨g,o+k,none⟩) zg).trans t1;have p2:=(hb6.cell (p:=⟨g',o'+j * 2,none⟩) (show g' < wo.heap.size by omega)).trans t2;have p3:=(hb6.cell (p:=⟨g',o'+j * 2+1,none⟩) (show g' < wo.heap.size by omega)).trans t3))
     obtain ⟨v1,v2,v3,v4⟩:=ownV ho5 rfl
     have al:Below w5.heap.size w5 (w5.alloc (.cells #[.int .i64 y.v,.slice s5 y.vw.length c5] 81)):=(Below.refl _ _).alloc (Nat.le_refl _) _
     have ts:∀ b,b < w5.heap.size→(w5.alloc (.cells #[.int .i64 y.v,.slice s5 y.vw.length c5] 81)).heap[b]? =w5.heap[b]? :=fun b hb=>al.block b hb
     have hP:ORow w6 wo.heap.size ⟨some ⟨g6,0,none⟩,c6,r.vs++[⟨s5,y.vw.length,c5⟩]⟩ (x.take j++[y]):=by
      refine HRO5.out.push ⟨s5,y.vw.length,c5⟩ y ((v1.keep (Keep.of_below al (Nat.le_refl _))).mono (by omega) (by simp)) (fun a ha=>?_) v3 (fun a ha ha'=>?_) ?_ ?_
      ·obtain ⟨cs,f,e⟩:=v2 a ha
       exact ⟨cs,f,(ts _ (v1.blk ha).2).trans e⟩
      ·have h1:=v4 a ha'
       have h2:=(HRO.out.blk ha).2
       omega
      ·rw [HRL.out];exact ho6
      ·have e9:(Value.slice r.s j r.c).ownBlock=r.val.ownBlock:=by unfold RS.val;cases r.s<;>rfl
       rw [← e9];exact hg6
     have HP:Hid (ORow w6 wo.heap.size ⟨some ⟨g6,0,none⟩,c6,r.vs++[⟨s5,y.vw.length,c5⟩]⟩ (x.take (j+1))):=by show ORow _ _ _ _;rw [HTy.out];exact hP
     have HB6:Hid (Below wo.heap.size wo w6):=HBO.out.trans ((hb5.mono (by omega)).trans hb6)
     clear v1 v2 v3 v4 al ts hP p0 p1 p2 p3 t0 t1 t2 t3 hb5 hb6 ho5 hc5 ho6 hg6 hn6 hl6
     go_wp2
     go_roundw
     case rel=>exact ⟨j+1,_,by omega,by go_num,rfl,by simp [HRL.out],HP.out,HB6.out⟩
     case measure=>simp [intOf];omega
    ·have e9:j=x.length:=by omega
     subst e9
     have hro:=HRO.out
     rw [List.take_length] at hro
     have HR9:Hid (ORow wr wo.heap.size r x):=hro
     clear hro HRO
     have HOX:Hid (OW (wr.alloc (.cells #[.slice r.s x.length r.c] 78)) (w.heap.size+3) (.slice sv k cv) S (m.take k)):=(HO.out.below HBO.out).below ((Below.refl _ _).alloc (Nat.le_refl _) _)
     have HRX:Hid (ORow (wr.alloc (.cells #[.slice r.s x.length r.c] 78)) wo.heap.size r x):=HR9.out.below ((Below.refl _ _).alloc (Nat.le_refl _) _)
     go_wp2_with (at_builtin;refine app_rowW rfl _ _ rfl (wr.alloc (.cells #[.slice r.s x.length r.c] 78)) (w.heap.size+3) (.slice sv k cv) S.length (S.map RS.val) rfl HOX.out.row wr.heap.size (.slice r.s x.length r.c) rfl rfl (by simp [go_sem]) (by have:=HS.out;omega) (by simp;omega) ?_;intro g7 c7 w7 ho7 hg7 hn7 hl7;have hb7:Below (w.heap.size+3) wr w7:=((Below.refl _ _).alloc (by omega) _).trans (Below.grown (Below.refl _ _) hg7 (by simp;omega) (fun b hb=>(World.ownsRow.lt HOX.out.row b hb).1));have t1:=(hb7.cell (p:=⟨w.heap.size+1+1,0,none⟩) (show w.heap.size+1+1 < w.heap.size+3 by omega)).trans d2;have t2:=(hb7.frozen (p:=⟨w.heap.size+1+1,0,none⟩) (show w.heap.size+1+1 < w.heap.size+3 by omega)).trans (d3 0);have HO7:=(show Hid _ from ho7);have HG7:=(show Hid _ from hg7);have HB7:=(show Hid _ from hb7);clear ho7 hg7 hn7 hb7)
     all_goals
      have HP:=HO.out.push (w1:=wr.alloc (.cells #[.slice r.s x.length r.c] 78)) (w2:=w7) (g:=g7) (cap:=c7) r x (HBO.out.trans ((show Below wr.heap.size wr _ from (Below.refl _ _).alloc (Nat.le_refl _) _).mono (by omega))) HRX.out (by omega) (by have:=HO7.out;unfold RS.val;rw [HRL.out];exact this) HG7.out
      have HP1:Hid (OW w7 (w.heap.size+3) (.slice (some ⟨g7,0,none⟩) (S.length+1) c7) (S++[r]) (m.take (k+1))):=by
       show OW _ _ _ _ _
       rw [HT.out]
       have e:(S++[r]).length=S.length+1:=by simp
       rw [← e]
       exact HP
      have hz7:=HB7.out.size
      clear HP
      go_wp2
      go_roundw
      case rel=>
       refine ⟨k+1,.slice (some ⟨g7,0,none⟩) (S.length+1) c7,_,by omega,by go_num,by simp [HS.out],HP1.out.kept (fun b hb _=>Below.heap_setCell _ _ _ b (by show b≠w.heap.size+1+1;omega)) (by simp),?_,setC_at (by rw [t1];rfl),?_,fun j=>?_,fun j=>?_,by simp;omega,?_⟩
       ·rw [setC_blk (by omega),HB7.out.cell (p:=⟨w.heap.size,0,none⟩) (show w.heap.size < w.heap.size+3 by omega)];exact d0
       ·rw [setC_blk (by omega),HB7.out.cell (p:=⟨w.heap.size+1,0,none⟩) (show w.heap.size+1 < w.heap.size+3 by omega),HBO.out.cell (p:=⟨w.heap.size+1,0,none⟩) z1];exact HC1.out
       ·rw [World.frozen?_setCell,HB7.out.frozen (p:=⟨w.heap.size+1+1,j,none⟩) (show w.heap.size+1+1 < w.heap.size+3 by omega)];exact d3 j
       ·rw [World.frozen?_setCell,HB7.out.frozen (p:=⟨w.heap.size+1,j,none⟩) (show w.heap.size+1 < w.heap.size+3 by omega),HBO.out.frozen (p:=⟨w.heap.size+1,j,none⟩) z1];exact HF1.out j
       ·exact ((HB.out.trans (HBO.out.mono (by omega))).trans (HB7.out.mono (by omega))).setCell (p:=⟨w.heap.size+1+1,0,none⟩) (by show w.heap.size≤w.heap.size+1+1;omega) _
      case measure=>simp [intOf];omega
  ·have e9:k=m.length:=by omega
   subst e9
   obtain ⟨u1,c1'⟩:=Option.isSome_iff_exists.1 HC1.out
   have f1:=HF1.out
   go_wp2
   have ho:=HO.out
   rw [List.take_length] at ho
   refine bodyPost_ret (v:=.agg #[.slice sv m.length cv]) (by simp [results,Try.results64,go_sem,c1']) rfl ⟨_,S,rfl,?_,?_⟩
   ·exact (ho.kept (fun b h1 _=>Below.heap_setCell _ _ _ b (by show b≠w.heap.size+1;omega)) (by simp)).low (by omega)
   ·exact HB.out.setCell (p:=⟨w.heap.size+1,0,none⟩) (by show w.heap.size≤w.heap.size+1;omega) _
end
section
set_option linter.unusedSimpArgs false
set_option linter.unusedVariables false
set_option maxRecDepth 100000
open Go.RowKit
def rightB (m:List (List WD)) (l:List Int) (cell:Int):Bool:=memB m&&viewB m l&&decide (0≤cell∧cell < 24)
def rowAt (m:List (List WD)) (cell:Int):List WD:=m.getD cell.toNat []
def atL (m:List (List WD)) (l:List Int) (cell late:Int):Int:=mx (l.getD cell.toNat 0) (((rowAt m cell).length:Int) - 1 - mx late 0)
def wrAt (m:List (List WD)) (cell at_:Int):WD:=(rowAt m cell).getD at_.toNat ⟨0,[]⟩
def viewAt (m:List (List WD)) (l:List Int) (cell late:Int) (hold:Bool):List Int:=
 if hold=true then joinL (l.set cell.toNat (atL m l cell late)) (wrAt m cell (atL m l cell late)).vw else l.set cell.toNat (atL m l cell late)
def loadV (m:List (List WD)) (l:List Int) (cell late:Int):Int:=if rightB m l cell=true then (wrAt m cell (atL m l cell late)).v else 0
def loadW (m:List (List WD)) (l:List Int) (cell late:Int) (hold:Bool):List Int:=if rightB m l cell=true then viewAt m l cell late hold else l
theorem mx_comm (a b:Int):mx a b=mx b a:=by unfold mx;split<;>split<;>omega
structure Rtx102 (m:List (List WD)) (l:List Int) (k:Nat) (r:List WD):Prop where
 hk:k < 24
 hr:m[k]? =some r
 n1:1≤r.length
 n2:r.length≤4000
 hl:l.length=24
 hm:m.length=24
 v0:0≤l.getD k 0
 v1:l.getD k 0 < (r.length:Int)
 hw:∀ (i:Nat) (x:WD),r[i]? =some x→x.vw.length=24
theorem right_of {m:List (List WD)} {l:List Int} {cell:Int} (h:rightB m l cell=true):∃ (k:Nat) (r:List WD),cell=k∧Rtx102 m l k r:=by
 unfold rightB at h
 rw [Bool.and_eq_true,Bool.and_eq_true,decide_eq_true_eq] at h
 obtain ⟨⟨h1,h2⟩,h3⟩:=h
 unfold memB at h1
 rw [Bool.and_eq_true,decide_eq_true_eq,List.all_eq_true] at h1
 unfold viewB at h2
 rw [decide_eq_true_eq] at h2
 obtain ⟨k,rfl⟩:∃ k:Nat,cell=k:=⟨cell.toNat,by omega⟩
 have hk:k < 24:=by omega
 obtain ⟨r,hr⟩:∃ r,m[k]? =some r:=⟨_,List.getElem?_eq_getElem (by omega)⟩
 have h4:=h1.2 r (List.mem_of_getElem? hr)
 unfold rowB at h4
 rw [Bool.and_eq_true,decide_eq_true_eq,List.all_eq_true] at h4
 have h5:=h2.2 k (by omega)
 have e:m.getD k []=r:=by rw [List.getD_eq_getElem?_getD,hr];rfl
 rw [e] at h5
 refine ⟨k,r,rfl,hk,hr,h4.1.1,h4.1.2,by omega,h1.1,h5.1,h5.2,fun i x hx=>?_⟩
 have h6:=h4.2 x (List.mem_of_getElem? hx)
 unfold viewB at h6
 rw [decide_eq_true_eq] at h6
 omega
theorem Rtx102.row {m:List (List WD)} {l:List Int} {k:Nat} {r:List WD} (h:Rtx102 m l k r):rowAt m (k:Int)=r:=by
 unfold rowAt
 rw [Int.toNat_natCast,List.getD_eq_getElem?_getD,h.hr]
 rfl
theorem Rtx102.at' {m:List (List WD)} {l:List Int} {k:Nat} {r:List WD} (h:Rtx102 m l k r) (late:Int):∃ (j:Nat) (x:WD),atL m l k late=j∧j < r.length∧r[j]? =some x∧wrAt m k (atL m l k late)=x∧mx (l.getD k 0) ((r.length:Int) - 1 - mx late 0)=j:=by
 have h1:=h.v0
 have h2:=h.v1
 have h3:=h.n1
 have e:atL m l k late=mx (l.getD k 0) ((r.length:Int) - 1 - mx late 0):=by unfold atL;rw [h.row,Int.toNat_natCast]
 have hb:0≤mx (l.getD k 0) ((r.length:Int) - 1 - mx late 0)∧mx (l.getD k 0) ((r.length:Int) - 1 - mx late 0) < r.length:=by
  unfold mx
  split<;>split<;>omega
 obtain ⟨j,hj⟩:∃ j:Nat,mx (l.getD k 0) ((r.length:Int) - 1 - mx late 0)=j:=⟨Int.toNat _,(Int.toNat_of_nonneg hb.1).symm⟩
 rw [hj] at hb e
 have hjr:j < r.length:=by omega
 refine ⟨j,r[j],e,hjr,List.getElem?_eq_getElem hjr,?_,hj⟩
 unfold wrAt
 rw [h.row,e,Int.toNat_natCast,List.getD_eq_getElem?_getD,List.getElem?_eq_getElem hjr]
 rfl
theorem loadV_yes {m:List (List WD)} {l:List Int} {k:Nat} {late:Int} {j:Nat} {x:WD} (h:rightB m l k=true) (hw:wrAt m k (atL m l k late)=x):loadV m l k late=x.v:=by unfold loadV;rw [if_pos h,hw]
theorem loadW_yes {m:List (List WD)} {l:List Int} {k:Nat} {late:Int} {hold:Bool} {j:Nat} {x:WD} (h:rightB m l k=true) (he:atL m l k late=j) (hw:wrAt m k (atL m l k late)=x):loadW m l k late hold=if hold=true then joinL (l.set k j) x.vw else l.set k j:=by
 unfold loadW viewAt
 rw [if_pos h,hw,he,Int.toNat_natCast]
theorem l1Max_is (a b z:Int) (w:World) (h:mx a b=z):Calls Try.prog 50 #[.int .i64 a,.int .i64 b] w fun e w'=>e=.returned (.int .i64 z)∧w'=w:=by
 rw [← h]
 exact l1Max_any a b w
set_option maxHeartbeats 2000000 in
theorem l6Load_any (s s' : Option Addr) (c c' lo hi lo' hi' : Nat) (m : List (List WD)) (l : List Int) (k : Nat) (r : List WD) (late : Int) (hold : Bool) (j : Nat) (x : WD) (w : World) (h : MemR w lo hi s m) (h' : IntsR w lo' hi' s' l) (hB : hi ≤ w.heap.size) (hB' : hi' ≤ w.heap.size) (hr : Rtx102 m l k r)
  (hlate:late≤9223372036854775807) (hj:mx (l.getD k 0) ((r.length:Int) - 1 - mx late 0)=j) (hx:r[j]? =some x):
  Calls Try.prog 66 #[.agg #[.slice s m.length c],.slice s' l.length c',.int .i64 k,.int .i64 late,.bool hold] w fun e w'=>∃ v,e=.returned (.tuple #[.int .i64 x.v,v])∧OwnN w' w.heap.size v (if hold=true then joinL (l.set k j) x.vw else l.set k j)∧Below w.heap.size w w':=by
 obtain ⟨gm,om,s1,c1,es,a1,a2,a3,a4⟩:=h.row hr.hr
 subst es
 obtain ⟨gr,or_,s2,c2,es,b1,b2,b3,b4,b5⟩:=a4.at hx
 subst es
 have hk:=hr.hk
 have hll:=hr.hl
 have hml:=hr.hm
 have hn1:=hr.n1
 have hn2:=hr.n2
 have hjr:=(List.getElem?_eq_some_iff.1 hx).1
 obtain ⟨gv,ov,es,f1,f2,f3⟩:=h'.pos (by omega)
 subst es
 have e1:=f3 k (by omega)
 have hv0:=hr.v0
 have hv1:=hr.v1
 have H:Hid (MemR w lo hi (some ⟨gm,om,none⟩) m):=h
 have H':Hid (IntsR w lo' hi' (some ⟨gv,ov,none⟩) l):=h'
 have HI:Hid (IntsR w lo hi s2 x.vw):=b5
 have hxl:=hr.hw j x hx
 have HXL:Hid (x.vw.length=24):=hxl
 have HLL:Hid (l.length=24):=hll
 have hl2:l.length≤1048577:=by omega
 generalize l.getD k 0=y at e1 hv0 hv1 hj
 obtain ⟨q,hq⟩:∃ q:Int,mx late 0=q:=⟨_,rfl⟩
 have hq0:0≤q∧q≤9223372036854775807:=by subst hq;unfold mx;split<;>omega
 rw [hq] at hj
 have HQ:Hid (mx late 0=q):=hq
 have HJ:Hid (mx ((r.length:Int) - 1 - q) y=j):=by show mx _ _=_;rw [mx_comm];exact hj
 have hw1:IntKind.i64.wrap ((r.length:Int) - 1 - q)=(r.length:Int) - 1 - q:=Go.IntWalk.i64_in _ (by omega)
 have hw0:IntKind.i64.wrap ((r.length:Int) - 1)=(r.length:Int) - 1:=Go.IntWalk.i64_in _ (by omega)
 have HJ2:Hid (mx (IntKind.i64.wrap (IntKind.i64.wrap ((r.length:Int) - 1) - q)) y=j):=by show mx _ _=_;rw [hw0,hw1];exact HJ.out
 have HJ3:Hid (mx (IntKind.i64.wrap ((r.length:Int) - 1 - q)) y=j):=by show mx _ _=_;rw [hw1];exact HJ.out
 clear hw0 hw1
 have B0:(0:Int)≤(k:Int):=by omega
 have B1:(k:Int) < (l.length:Int):=by omega
 have B2:(k:Int) < (m.length:Int):=by omega
 have B3:(0:Int)≤(j:Int):=by omega
 have B4:(j:Int) < (r.length:Int):=by omega
 have G1:gm < w.heap.size:=by omega
 have G2:gr < w.heap.size:=by omega
 have G3:gv < w.heap.size:=by omega
 clear h h' a4 b5 hx hj hr hq hll hml hxl f3
 go_enter Try.func66,Try.ntmps66
 go_wp2_with fail
 obtain ⟨W,hW,bx,kb,zb⟩:=Bo1.new w (.slice (some ⟨gm,om,none⟩) m.length c) 30
 rw [hW]
 clear hW
 have c0:=bx.c0
 have HKB:Hid (Below w.heap.size w W):=kb
 have z0:w.heap.size < W.heap.size:=by omega
 have k1:=(kb.cell (p:=⟨gm,om+k,none⟩) G1).trans a3
 have k2:=(kb.cell (p:=⟨gr,or_+j * 2,none⟩) G2).trans b3
 have k3:=(kb.cell (p:=⟨gr,or_+j * 2+1,none⟩) G2).trans b4
 have k4:=(kb.cell (p:=⟨gv,ov+k,none⟩) G3).trans e1
 have IW:Hid (IntsR W lo hi s2 x.vw):=HI.out.keep (Keep.of_below kb hB)
 have LW:Hid (IntsR W lo' hi' (some ⟨gv,ov,none⟩) l):=H'.out.keep (Keep.of_below kb hB')
 have y1:gm < W.heap.size:=by omega
 have y2:gr < W.heap.size:=by omega
 have y3:gv < W.heap.size:=by omega
 have y4:hi≤W.heap.size:=by omega
 clear bx kb zb a3 b3 b4 e1
 go_quiet (first | (go_at_call 50;exact Calls.quiet_of_same (l1Max_is _ _ _ _ HQ.out)) | (go_at_call 50;exact Calls.quiet_of_same (l1Max_is _ _ _ _ HJ.out)) | (go_at_call 50;exact Calls.quiet_of_same (l1Max_is _ _ _ _ HJ2.out)) | (go_at_call 50;exact Calls.quiet_of_same (l1Max_is _ _ _ _ HJ3.out)))
 obtain ⟨Y,hY⟩:∃ Y,W.drewN nq=Y:=⟨_,rfl⟩
 have kY:Below W.heap.size W Y:=by rw [← hY];exact below_drewN _ _
 have zY:=kY.size
 rw [hY]
 clear hY
 have HKY:Hid (Below w.heap.size w Y):=HKB.out.trans (kY.mono (by omega))
 have m1:=(kY.cell (p:=⟨gm,om+k,none⟩) y1).trans k1
 have m2:=(kY.cell (p:=⟨gr,or_+j * 2,none⟩) y2).trans k2
 have m3:=(kY.cell (p:=⟨gr,or_+j * 2+1,none⟩) y2).trans k3
 have IY:Hid (IntsR Y lo hi s2 x.vw):=IW.out.keep (Keep.of_below kY (by omega))
 have LY:Hid (IntsR (Y.alloc (.cells #[] 3)) lo' hi' (some ⟨gv,ov,none⟩) l):=LW.out.keep (Keep.of_below (kY.trans (((Below.refl _ _).alloc (Nat.le_refl _) _).mono zY)) (by omega))
 have w2:gr < Y.heap.size:=by omega
 have w4:hi≤Y.heap.size:=by omega
 clear kY k1 k2 k3 k4 c0 m1
 cases hold
 ·go_wp2_with (at_builtin;refine app_copyI rfl _ _ rfl rfl _ Y.heap.size (some ⟨Y.heap.size,0,none⟩) 0 rfl (ownN_empty (Nat.le_refl _)) (some ⟨gv,ov,none⟩) c' l rfl LY.out (by omega) (by simp) ?_;intro s5 c5 w5 ho5 hc5;obtain ⟨g5,cap5,e5,-⟩:=World.ownsRow.form ho5 (by omega);injection e5 with e51 e52 e53;subst e51;have q0:w5.cell? ⟨g5,k,none⟩=some (.int .i64 (l.getD k 0)):=ho5.cell (by omega);have q1:w5.frozen? ⟨g5,k,none⟩=false:=World.ownsRow.frozenAt ho5 k;have q9:=(World.ownsRow.lt ho5 g5 rfl);have hb5:Below Y.heap.size Y w5:=((Below.refl _ _).alloc (Nat.le_refl _) _).trans hc5.low;have q2:=(hb5.cell (p:=⟨gr,or_+j * 2,none⟩) w2).trans m2;have q3:=(hb5.cell (p:=⟨gr,or_+j * 2+1,none⟩) w2).trans m3;have q4:¬ g5=gr:=(by omega);have q5:¬ gr=g5:=(by omega);have HO5:=(show Hid (OwnN w5 Y.heap.size (.slice (some ⟨g5,0,none⟩) l.length c5) l) from ho5);have HB5:Hid (Below Y.heap.size Y w5):=hb5;clear ho5 hc5 hb5 e53)
  have st:OwnN (w5.setCell ⟨g5,k,none⟩ (.int .i64 j)) Y.heap.size (.slice (some ⟨g5,0,none⟩) l.length c5) (l.set k j):=by
   have p5:=(World.ownsRow.stored HO5.out k (.int .i64 j)).1
   unfold OwnN
   rw [List.map_set,List.length_set]
   exact p5
  have kb:Below Y.heap.size Y (w5.setCell ⟨g5,k,none⟩ (.int .i64 j)):=HB5.out.setCell (p:=⟨g5,k,none⟩) q9.1 _
  go_ret2
  exact ⟨_,rfl,ownLow' st (by have:=HKY.out.size;omega),HKY.out.trans (kb.mono HKY.out.size)⟩
 ·go_wp2_with (first | (at_builtin;refine app_copyI rfl _ _ rfl rfl _ Y.heap.size (some ⟨Y.heap.size,0,none⟩) 0 rfl (ownN_empty (Nat.le_refl _)) (some ⟨gv,ov,none⟩) c' l rfl LY.out (by omega) (by simp) ?_;intro s5 c5 w5 ho5 hc5;obtain ⟨g5,cap5,e5,-⟩:=World.ownsRow.form ho5 (by omega);injection e5 with e51 e52 e53;subst e51;have q0:w5.cell? ⟨g5,k,none⟩=some (.int .i64 (l.getD k 0)):=ho5.cell (by omega);have q1:w5.frozen? ⟨g5,k,none⟩=false:=World.ownsRow.frozenAt ho5 k;have q9:=(World.ownsRow.lt ho5 g5 rfl);have hb5:Below Y.heap.size Y w5:=((Below.refl _ _).alloc (Nat.le_refl _) _).trans hc5.low;have q2:=(hb5.cell (p:=⟨gr,or_+j * 2,none⟩) w2).trans m2;have q3:=(hb5.cell (p:=⟨gr,or_+j * 2+1,none⟩) w2).trans m3;have q4:¬ g5=gr:=(by omega);have q5:¬ gr=g5:=(by omega);have HO5:=(show Hid (OwnN w5 Y.heap.size (.slice (some ⟨g5,0,none⟩) l.length c5) l) from ho5);have HB5:Hid (Below Y.heap.size Y w5):=hb5;clear ho5 hc5 hb5 e53) | fail)
  have st:OwnN (w5.setCell ⟨g5,k,none⟩ (.int .i64 j)) Y.heap.size (.slice (some ⟨g5,0,none⟩) l.length c5) (l.set k j):=by
   have p5:=(World.ownsRow.stored HO5.out k (.int .i64 j)).1
   unfold OwnN
   rw [List.map_set,List.length_set]
   exact p5
  have kb:Below Y.heap.size Y (w5.setCell ⟨g5,k,none⟩ (.int .i64 j)):=HB5.out.setCell (p:=⟨g5,k,none⟩) q9.1 _
  obtain ⟨X,hX⟩:∃ X,w5.setCell ⟨g5,k,none⟩ (.int .i64 j)=X:=⟨_,rfl⟩
  rw [hX] at st kb
  rw [hX]
  have n2:=(kb.cell (p:=⟨gr,or_+j * 2,none⟩) w2).trans m2
  have zX:=kb.size
  have OX:Hid (IntsR X Y.heap.size X.heap.size (some ⟨g5,0,none⟩) (l.set k (j:Int))):=ownN_intsR (c:=c5) (by rw [List.length_set];exact st)
  have IX:Hid (IntsR X lo hi s2 x.vw):=IY.out.keep (Keep.of_below kb (by omega))
  have HKX:Hid (Below Y.heap.size Y X):=kb
  have zg:gr < X.heap.size:=by omega
  clear hX st kb q0 q1 q2 q3
  have jn:=specJoin_any (some ⟨g5,0,none⟩) s2 c5 c2 _ _ lo hi (l.set k (j:Int)) x.vw X OX.out IX.out (by rw [List.length_set];omega) (by have:=HXL.out;omega) (Nat.le_refl _) (by omega)
  rw [List.length_set] at jn
  refine jn.mono ?_
  rintro e w6 ⟨v6,rfl,ho6,hb6⟩
  have n3:=(hb6.cell (p:=⟨gr,or_+j * 2,none⟩) zg).trans n2
  have HO6:=(show Hid _ from ho6)
  have HB6:Hid (Below X.heap.size X w6):=hb6
  have z6:=hb6.size
  have zg6:gr < w6.heap.size:=by omega
  clear ho6 hb6 jn n2
  go_wp2
  go_ret2
  exact ⟨_,rfl,ownLow' HO6.out (by have:=HKY.out.size;omega),HKY.out.trans ((HKX.out.trans (HB6.out.mono (by omega))).mono HKY.out.size)⟩
end
section
set_option linter.unusedSimpArgs false
set_option linter.unusedVariables false
set_option maxRecDepth 100000
open Go.RowKit
theorem mAs_join (b:List RS):∀ (a:List RS),mAs (a++b)=mAs a++mAs b
 | []=>by simp [mAs]
 | y::r=>by simp [mAs,mAs_join b r]
theorem mAs_cut {S:List RS} {j:Nat} {x:RS} (h:S[j]? =some x):mAs S=mAs (S.take j)++(rAs x.s x.vs 0++mAs (S.drop (j+1))):=by
 have hj:=(List.getElem?_eq_some_iff.1 h).1
 have e:S=S.take j++(x::S.drop (j+1)):=by
  rw [← (List.getElem?_eq_some_iff.1 h).2,← List.drop_eq_getElem_cons hj,List.take_append_drop]
 have h1:=mAs_join (x::S.drop (j+1)) (S.take j)
 rw [← e] at h1
 exact h1
theorem mAs_disj {S:List RS} (hd:(mAs S).Nodup) {i k:Nat} {r r':RS} (hi:S[i]? =some r) (hk:S[k]? =some r') (hlt:i < k):∀ a∈rAs r.s r.vs 0,a∉rAs r'.s r'.vs 0:=fun a ha ha'=>by
 have sp:=mAs_cut hk
 rw [sp] at hd
 have hm:a∈mAs (S.take k):=mem_mAs.2 ⟨r,List.mem_of_getElem? (i:=i) (by rw [List.getElem?_take,if_pos hlt];exact hi),ha⟩
 exact (List.nodup_append.1 hd).2.2 a hm a (List.mem_append_left _ ha') rfl
theorem OW.sepR {w : World} {B : Nat} {v : Value} {S : List RS} {m : List (List WD)} (h : OW w B v S m) (hne : ∀ (i : Nat) (r : RS), S[i]? = some r → 0 < r.vs.length) {i k : Nat} {r r' : RS} {l l' : List WD} (hi : S[i]? = some r) (hl : m[i]? = some l) (hk : S[k]? = some r') (hl' : m[k]? = some l') (hik : i ≠ k) {b : Nat} (hb : r'.val.ownBlock = some b) :
  (∀ k',r.val.ownBlock=some k'→k'≠b)∧∀ a∈vsA r.vs,a.block≠b:=by
 have q:=h.r i r l hi hl
 have q':=h.r k r' l' hk hl'
 refine ⟨fun k' e1 e=>?_,fun a ha=>q'.sepV hb (q.vt a ha)⟩
 subst e
 obtain ⟨g1,cap1,f1,-⟩:=World.ownsRow.form q.own (hne i r hi)
 obtain ⟨g2,cap2,f2,-⟩:=World.ownsRow.form q'.own (hne k r' hk)
 have s1:r.s=some ⟨g1,0,none⟩:=by unfold RS.val at f1;injection f1 with f1
 have s2:r'.s=some ⟨g2,0,none⟩:=by unfold RS.val at f2;injection f2 with f2
 have b1:g1=k':=by unfold RS.val at e1;rw [s1] at e1;injection e1
 have b2:g2=k':=by unfold RS.val at hb;rw [s2] at hb;injection hb
 have m1:(⟨k',0,none⟩:Addr)∈rAs r.s r.vs 0:=mem_rAs.2 (.inl ⟨0,hne i r hi,by rw [s1,b1];rfl⟩)
 have m2:(⟨k',0,none⟩:Addr)∈rAs r'.s r'.vs 0:=mem_rAs.2 (.inl ⟨0,hne k r' hk,by rw [s2,b2];rfl⟩)
 rcases Nat.lt_or_gt_of_ne hik with h1 | h1
 ·exact mAs_disj h.d hi hk h1 _ m1 m2
 ·exact mAs_disj h.d hk hi h1 _ m2 m1
theorem OW.setRow {w w1 w2 : World} {B gO cO g cap k : Nat} {S : List RS} {m : List (List WD)} {r : RS} {l : List WD} (x : VS) (y : WD) (h : OW w B (.slice (some ⟨gO, 0, none⟩) m.length cO) S m) (hb : Below w.heap.size w w1) (hB : B ≤ w.heap.size) (hne : ∀ (i : Nat) (r : RS), S[i]? = some r → 0 < r.vs.length)
  (hk:S[k]? =some r) (hl:m[k]? =some l) (hx:VO w1 w.heap.size w1.heap.size x y.vw) (hxt:∀ a∈vAs x,TyI w1 a.block) (hxd:(vAs x).Nodup)
  (h2:w2.ownsRow B 81 2 (.slice (some ⟨g,0,none⟩) (r.vs.length+1) cap) (r.vs.length+1) (flatV r.vs l++[.int .i64 y.v,.slice x.s x.n x.c])) (hg:w1.grownBy w2 r.val.ownBlock) (hn:r.val.ownBlock=some g∨w1.heap.size≤g):
  OW (w2.setCell ⟨gO,k,none⟩ (.slice (some ⟨g,0,none⟩) (r.vs.length+1) cap)) B (.slice (some ⟨gO,0,none⟩) m.length cO) (S.set k ⟨some ⟨g,0,none⟩,cap,r.vs++[x]⟩) (m.set k (l++[y])):=by
 have h1:=h.below hb
 have hkS:=(List.getElem?_eq_some_iff.1 hk).1
 have hkm:k < m.length:=by have:=h.n;omega
 have hn1:=h.n
 have q:=h1.r k r l hk hl
 have old:∀ a∈mAs S,a.block < w.heap.size:=fun a ha=>(h.om.blk ha).2
 have P:ORow w2 B ⟨some ⟨g,0,none⟩,cap,r.vs++[x]⟩ (l++[y]):=by
  refine q.push x y (hx.mono hB (Nat.le_refl _)) hxt hxd (fun a ha ha'=>?_) h2 hg
  have e1:=(hx.blk ha').1
  have e2:=old a (mem_mAs.2 ⟨r,List.mem_of_getElem? hk,by obtain ⟨x',hx',hax⟩:=mem_vsA.1 ha;exact mem_rAs.2 (.inr ⟨x',hx',hax⟩)⟩)
  omega
 obtain ⟨cO',ocs⟩:=rows_blkT h1.row (k:=gO) rfl
 have rb:∀ b,r.val.ownBlock=some b→b≠gO:=fun b e e'=>by
  subst e'
  obtain ⟨cs,c1⟩:=q.blkT e
  rw [c1] at ocs
  injection ocs with ocs
  injection ocs with _ ocs
  exact absurd ocs (by decide)
 have gOl:gO < w1.heap.size:=(World.ownsRow.lt h1.row gO rfl).2
 have ocs2:w2.heap[gO]? =w1.heap[gO]? :=hg.block _ gOl (fun e=>rb gO e.symm rfl)
 have kS:∀ b,b≠gO→(w2.setCell ⟨gO,k,none⟩ (.slice (some ⟨g,0,none⟩) (r.vs.length+1) cap)).heap[b]? =w2.heap[b]? :=fun b hb=>Below.heap_setCell _ _ _ b hb
 have fin:∀ (r':RS) (l':List WD),ORow w2 B r' l'→ORow (w2.setCell ⟨gO,k,none⟩ (.slice (some ⟨g,0,none⟩) (r.vs.length+1) cap)) B r' l':=fun r' l' p=>by
  refine p.kept (fun b e=>kS b (fun e'=>?_)) (fun a ha=>kS _ (fun e'=>?_)) (by simp)
  ·subst e'
   obtain ⟨cs,c1⟩:=p.blkT e
   rw [ocs2,ocs] at c1
   injection c1 with c1
   injection c1 with _ c1
   exact absurd c1 (by decide)
  ·obtain ⟨cs,f,c1⟩:=p.vt a ha
   rw [e',ocs2,ocs] at c1
   injection c1 with c1
   injection c1 with _ c1
   exact absurd c1 (by decide)
 have oth:∀ (i:Nat) (r1:RS) (l1:List WD),i≠k→S[i]? =some r1→m[i]? =some l1→ORow w2 B r1 l1:=fun i r1 l1 hik e1 e2=>by
  have p:=h1.r i r1 l1 e1 e2
  refine p.kept (fun b e=>hg.block _ (World.ownsRow.lt p.own _ e).2 (fun e'=>?_)) (fun a ha=>hg.block _ (p.blk ha).2 (fun e'=>?_)) hg.size
  ·exact (h1.sepR hne e1 e2 hk hl hik e'.symm).1 b e rfl
  ·exact (h1.sepR hne e1 e2 hk hl hik e'.symm).2 a ha rfl
 refine ⟨by simp [hn1],?_,fun i r1 l1 e1 e2=>?_,?_⟩
 ·have o2:w2.ownsRow B 78 1 (.slice (some ⟨gO,0,none⟩) m.length cO) m.length (S.map RS.val):=by
   have:=ownKeep' (w':=w2) h1.row (fun b e=>by have e9:some gO=some b:=e;injection e9 with e9;subst e9;exact ocs2)
   rw [hn1] at this
   exact this
  have p1:=(World.ownsRow.stored o2 k (.slice (some ⟨g,0,none⟩) (r.vs.length+1) cap)).1
  have e3:(S.map RS.val).set k (.slice (some ⟨g,0,none⟩) (r.vs.length+1) cap)=(S.set k ⟨some ⟨g,0,none⟩,cap,r.vs++[x]⟩).map RS.val:=by
   rw [List.map_set]
   simp [RS.val]
  rw [e3] at p1
  rw [List.length_set,hn1]
  exact p1
 ·by_cases hik:i=k
  ·subst hik
   rw [List.getElem?_set_self hkS] at e1
   rw [List.getElem?_set_self hkm] at e2
   injection e1 with e1
   injection e2 with e2
   subst e1 e2
   exact fin _ _ P
  ·rw [List.getElem?_set_ne (fun e=>hik e.symm)] at e1 e2
   exact fin _ _ (oth i r1 l1 hik e1 e2)
 ·have sp:=mAs_cut hk
  have d0:=h.d
  rw [sp] at d0
  obtain ⟨dA,dr,dAr⟩:=List.nodup_append.1 d0
  obtain ⟨drr,dB,drB⟩:=List.nodup_append.1 dr
  rw [List.set_eq_take_append_cons_drop,if_pos hkS,mAs_join]
  show (mAs (S.take k)++(rAs (some ⟨g,0,none⟩) (r.vs++[x]) 0++mAs (S.drop (k+1)))).Nodup
  -- an address of the new row is in no other row
  have key:∀ a∈rAs (some ⟨g,0,none⟩) (r.vs++[x]) 0,∀ (i:Nat) (r1:RS),i≠k→S[i]? =some r1→a∉rAs r1.s r1.vs 0:=fun a ha i r1 hik e1 ha1=>by
   have hil:i < m.length:=by have:=(List.getElem?_eq_some_iff.1 e1).1;omega
   have e2:m[i]? =some m[i]:=List.getElem?_eq_getElem hil
   have ao:=old a (mem_mAs.2 ⟨r1,List.mem_of_getElem? e1,ha1⟩)
   rcases mem_rAs.1 ha with ⟨j,hj,e⟩ | ⟨x',hx',hax⟩
   ·rcases hn with hn | hn
    ·have sr:=h1.sepR hne e1 e2 hk hl hik hn
     rcases mem_rAs.1 ha1 with ⟨j1,hj1,e3⟩ | ⟨x1,hx1,hax1⟩
     ·obtain ⟨g1,cap1,f1,-⟩:=World.ownsRow.form (h1.r i r1 _ e1 e2).own (hne i r1 e1)
      have s1:r1.s=some ⟨g1,0,none⟩:=by unfold RS.val at f1;injection f1 with f1
      have:=sr.1 g1 (by unfold RS.val;rw [s1];rfl)
      rw [s1] at e3
      rw [e3] at e
      injection e with e _ _
      exact this e
     ·exact sr.2 a (mem_vsA.2 ⟨x1,hx1,hax1⟩) (by rw [e];rfl)
    ·have:a.block=g:=by rw [e];rfl
     have:=hb.size
     omega
   ·rcases List.mem_append.1 hx' with hx' | hx'
    ·have m1:a∈rAs r.s r.vs 0:=mem_rAs.2 (.inr ⟨x',hx',hax⟩)
     rcases Nat.lt_or_gt_of_ne hik with h9 | h9
     ·exact mAs_disj h.d e1 hk h9 a ha1 m1
     ·exact mAs_disj h.d hk e1 h9 a m1 ha1
    ·simp at hx'
     subst hx'
     have:=(hx.blk hax).1
     omega
  refine List.nodup_append.2 ⟨dA,List.nodup_append.2 ⟨P.ro.d,dB,fun a ha b hb' e=>?_⟩,fun a ha b hb' e=>?_⟩
  ·subst e
   obtain ⟨r1,hr1,har⟩:=mem_mAs.1 hb'
   obtain ⟨i,hi',er⟩:=List.getElem_of_mem hr1
   rw [List.getElem_drop] at er
   exact key a ha (k+1+i) r1 (by omega) (by rw [List.getElem?_eq_getElem (by simp at hi';omega),er]) har
  ·subst e
   rcases List.mem_append.1 hb' with hb' | hb'
   ·obtain ⟨r1,hr1,har⟩:=mem_mAs.1 ha
    obtain ⟨i,hi',er⟩:=List.getElem_of_mem hr1
    rw [List.getElem_take] at er
    exact key a hb' i r1 (by simp at hi';omega) (by rw [List.getElem?_eq_getElem (by simp at hi';omega),er]) har
   ·exact dAr a ha a (List.mem_append_right _ hb') rfl
end
section
set_option linter.unusedSimpArgs false
set_option linter.unusedVariables false
set_option maxRecDepth 100000
open Go.RowKit
def toldL (l:List Int) (k n:Nat) (b:Bool):List Int:=if b=true then l.set k (n:Int) else (List.replicate 24 (0:Int)).set k (n:Int)
theorem OW.far {w X:World} {B g:Nat} {v:Value} {S:List RS} {m:List (List WD)} (h:OW w B v S m) (hne:∀ (i:Nat) (r:RS),S[i]? =some r→0 < r.vs.length) (hv:v.ownBlock≠some g) (hsep:∀ a∈mAs S,a.block≠g) (hk:∀ b,b < w.heap.size→b≠g→X.heap[b]? =w.heap[b]?) (hs:w.heap.size≤X.heap.size):OW X B v S m:=by
 refine ⟨h.n,ownKeep' h.row (fun b e=>hk b (World.ownsRow.lt h.row _ e).2 (fun e'=>hv (by rw [e,e']))),fun i r l hr hl=>?_,h.d⟩
 have q:=h.r i r l hr hl
 refine q.kept (fun b e=>hk b (World.ownsRow.lt q.own _ e).2 (fun e'=>?_)) (fun a ha=>hk _ (q.blk ha).2 ?_) hs
 ·obtain ⟨g1,cap1,f1,-⟩:=World.ownsRow.form q.own (hne i r hr)
  have s1:r.s=some ⟨g1,0,none⟩:=by unfold RS.val at f1;injection f1 with f1
  have b1:g1=b:=by unfold RS.val at e;rw [s1] at e;injection e
  exact hsep ⟨g1,0,none⟩ (mem_mAs.2 ⟨r,List.mem_of_getElem? hr,mem_rAs.2 (.inl ⟨0,hne i r hr,by rw [s1];rfl⟩)⟩) (by show g1=g;omega)
 ·obtain ⟨x',hx',hax⟩:=mem_vsA.1 ha
  exact hsep a (mem_mAs.2 ⟨r,List.mem_of_getElem? hr,mem_rAs.2 (.inr ⟨x',hx',hax⟩)⟩)
theorem OW.outNe {w:World} {B gO n c:Nat} {S:List RS} {m:List (List WD)} (h:OW w B (.slice (some ⟨gO,0,none⟩) n c) S m) {k:Nat} {r:RS} {l:List WD} (hk:S[k]? =some r) (hl:m[k]? =some l) {b:Nat} (e:r.val.ownBlock=some b):b≠gO:=fun e'=>by
 subst e'
 obtain ⟨cs,c1⟩:=(h.r k r l hk hl).blkT e
 obtain ⟨cs',ocs⟩:=rows_blkT h.row (k:=b) rfl
 rw [c1] at ocs
 injection ocs with ocs
 injection ocs with _ ocs
 exact absurd ocs (by decide)
end
section
set_option linter.unusedSimpArgs false
set_option linter.unusedVariables false
set_option maxRecDepth 100000
open Go.RowKit
end
section
set_option linter.unusedSimpArgs false
set_option linter.unusedVariables false
set_option maxRecDepth 100000
open Go.RowKit
theorem eqStep_run (o r a b n o' r' a' b' n':Int) (w:World):(binOp .eql 98 (.agg #[.int .i64 o,.int .i64 r,.int .i64 a,.int .i64 b,.int .i64 n]) (.agg #[.int .i64 o',.int .i64 r',.int .i64 a',.int .i64 b',.int .i64 n'])).run Try.prog w=.ok (.bool (decide (o=o'∧r=r'∧a=a'∧b=b'∧n=n'))) w:=by
 simp [go_sem]
 by_cases h1:o=o'<;>by_cases h2:r=r'<;>by_cases h3:a=a'<;>by_cases h4:b=b'<;>by_cases h5:n=n'<;>simp [h1,h2,h3,h4,h5]
end
end Go.Proofs.Ytkhjhibigldcgaa
