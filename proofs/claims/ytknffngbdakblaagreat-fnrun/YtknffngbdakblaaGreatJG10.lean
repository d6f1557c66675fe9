/- l4Chan of the specification, all its ops. Conditions: as in StepCh; the channel is ChanOk, and a take sets two registers. Append of one note; a source whose trace has one more; the boxes of a step, the source's written over; a place of a channel, as a function of lists. No condition. A step of the specification: printing. No condition. -/
import Derived.Test.YtknffngbdakblaaGreatJG00
import Derived.Test.YtknffngbdakblaaGreatJG06
import Derived.Test.YtknffngbdakblaaGreatJG03
import Derived.Test.YtknffngbdakblaaGreatJChTake
import Derived.Test.YtknffngbdakblaaGreatJG04
import Derived.Test.YtknffngbdakblaaGreatJG05
import Derived.Test.YtknffngbdakblaaGreatJStepCh
import Derived.Test.YtknffngbdakblaaGreatJStepChB
import Derived.Test.YtknffngbdakblaaGreatJStepChC
import Derived.Test.YtknffngbdakblaaGreatJStepChD
import Derived.Test.YtknffngbdakblaaGreatJG08
import Derived.Test.YtknffngbdakblaaGreatJG07
import Derived.Test.YtknffngbdakblaaGreatJG01
import Derived.Test.YtknffngbdakblaaGreatJBody
import Derived.Deep.DeepCutAuto
import Derived.Test.YtknffngbdakblaaGreatJStepSpA
namespace Go.Proofs.YtknffngbdakblaaGreat
section
set_option linter.unusedSimpArgs false
set_option linter.unusedVariables false
set_option maxRecDepth 100000
open Go.RowKit
/- what l4Chan makes of the registers, of the channel, and what it tells -/
def chanR (op:Int) (rg:List Int) (c:CD) (r b:Nat):List Int:=
 if op=7 then (if sendK c.cap c.list c.cl=2 then rg else rg.set r (bitN (decide (sendK c.cap c.list c.cl=0))))
 else if op=6 then (if takeK c.cap c.list c.cl=1 then rg else (rg.set r (takeV c.cap c.list)).set b (bitN (decide (takeK c.cap c.list c.cl=0))))
 else if op=8 then (rg.set r (takeV c.cap c.list)).set b (if takeK c.cap c.list c.cl=0 then 1 else if takeK c.cap c.list c.cl=3 then 2 else 0)
 else rg
def chanC (op:Int) (c:CD) (va:Int):CD:=
 if op=5∨op=7 then ⟨c.cap,sendL c.cap c.list c.cl va,c.cl⟩
 else if op=9 then ⟨c.cap,c.list,closeB c.cap c.list c.cl⟩
 else ⟨c.cap,takeL c.cap c.list,c.cl⟩
def chanH (op:Int) (c:CD):Int:=
 if op=5 then sendK c.cap c.list c.cl
 else if op=7 then (if sendK c.cap c.list c.cl=2 then 2 else 0)
 else if op=9 then closeK c.cap c.list c.cl
 else if op=6 then (if takeK c.cap c.list c.cl=1 then 1 else 0)
 else 0
theorem sendK_three (cap:Int) (l:List Int) (cl:Bool):sendK cap l cl=0∨sendK cap l cl=1∨sendK cap l cl=2:=by
 unfold sendK
 split
 ·split
  ·exact .inl rfl
  ·exact .inr (.inl rfl)
 ·exact .inr (.inr rfl)
theorem takeK_three {cap:Int} {l:List Int} {cl:Bool} (h:okC cap l.length=true):takeK cap l cl=0∨takeK cap l cl=1∨takeK cap l cl=3:=by
 unfold takeK
 rw [if_pos h]
 split
 ·split
  ·exact .inr (.inr rfl)
  ·exact .inr (.inl rfl)
 ·exact .inl rfl
theorem l4Chan_any (op : Int) (v1 v2 v3 : Value) (base : Nat) (L1 L2 : List (Rec × Value)) (d : SD) (k : Nat) (t : TD) (c : CD) (r a b n : Nat) (w : World) (hO : OwnS w base v1 v2 v3 L1 L2 d) (hb : base ≤ w.heap.size) (ht : d.ths[k]? = some t) (h4 : t.regs.length = 4) (hc : d.chs[n]? = some c) (hr : r < 4) (ha : a < 4) (hb4 : b < 4) (hcl : c.list.length ≤ 4) (hcn : d.chs.length ≤ 3) (hth : d.ths.length ≤ 4) (hok : okC c.cap c.list.length = true) (hop : op = 5 ∨ op = 6 ∨ op = 7 ∨ op = 8 ∨ op = 9) (hrb : op = 6 ∨ op = 8 → r ≠ b) :
  Calls Tryz.prog 79 #[.agg #[v1,v2,v3],.int .i64 k,.agg #[.int .i64 op,.int .i64 r,.int .i64 a,.int .i64 b,.int .i64 n]] w fun e w'=>∃ L1' L2',e=.returned (.tuple #[.agg #[v1,v2,v3],.int .i64 (chanH op c)])∧OwnS w' base v1 v2 v3 L1' L2' ⟨d.ths.set k ⟨t.pc,chanR op t.regs c r b,t.st⟩,d.chs.set n (chanC op c (t.regs.getD a 0)),d.tr⟩∧Below base w w'∧∀ b,b < w.heap.size→¬ HitS v1 v2 v3 L1 L2 b→w'.heap[b]? =w.heap[b]? :=by
 rcases hop with rfl | rfl | rfl | rfl | rfl
 ·have h:=l4Chan_s5 v1 v2 v3 base L1 L2 d k t c r a b n w hO hb ht h4 hc hr ha hb4 hcl hcn hth _ rfl
  simpa [chanH,chanR,chanC] using h
 ·have hne:=hrb (.inl rfl)
  rcases takeK_three (cl:=c.cl) hok with hk | hk | hk
  ·have h:=l4Chan_k6a v1 v2 v3 base L1 L2 d k t c r a b n w hO hb ht h4 hc hr ha hb4 hcl hcn hth _ rfl hne (Ne.symm hne) hk
   simpa [chanH,chanR,chanC,hk] using h
  ·have h:=l4Chan_k6w v1 v2 v3 base L1 L2 d k t c r a b n w hO hb ht h4 hc hr ha hb4 hcl hcn hth _ rfl hk
   simpa [chanH,chanR,chanC,hk] using h
  ·have h:=l4Chan_k6c v1 v2 v3 base L1 L2 d k t c r a b n w hO hb ht h4 hc hr ha hb4 hcl hcn hth _ rfl hne (Ne.symm hne) hk
   simpa [chanH,chanR,chanC,hk] using h
 ·rcases sendK_three c.cap c.list c.cl with hk | hk | hk
  ·have h:=l4Chan_t7a v1 v2 v3 base L1 L2 d k t c r a b n w hO hb ht h4 hc hr ha hb4 hcl hcn hth _ rfl hk
   simpa [chanH,chanR,chanC,hk] using h
  ·have h:=l4Chan_t7b v1 v2 v3 base L1 L2 d k t c r a b n w hO hb ht h4 hc hr ha hb4 hcl hcn hth _ rfl hk
   simpa [chanH,chanR,chanC,hk] using h
  ·have h:=l4Chan_t7f v1 v2 v3 base L1 L2 d k t c r a b n w hO hb ht h4 hc hr ha hb4 hcl hcn hth _ rfl hk
   simpa [chanH,chanR,chanC,hk] using h
 ·have hne:=hrb (.inr rfl)
  rcases takeK_three (cl:=c.cl) hok with hk | hk | hk
  ·have h:=l4Chan_y8a v1 v2 v3 base L1 L2 d k t c r a b n w hO hb ht h4 hc hr ha hb4 hcl hcn hth _ rfl hne (Ne.symm hne) hk
   simpa [chanH,chanR,chanC,hk] using h
  ·have h:=l4Chan_y8b v1 v2 v3 base L1 L2 d k t c r a b n w hO hb ht h4 hc hr ha hb4 hcl hcn hth _ rfl hne (Ne.symm hne) hk
   simpa [chanH,chanR,chanC,hk] using h
  ·have h:=l4Chan_y8c v1 v2 v3 base L1 L2 d k t c r a b n w hO hb ht h4 hc hr ha hb4 hcl hcn hth _ rfl hne (Ne.symm hne) hk
   simpa [chanH,chanR,chanC,hk] using h
 ·have h:=l4Chan_c9 v1 v2 v3 base L1 L2 d k t c r a b n w hO hb ht h4 hc hr ha hb4 hcl hcn hth _ rfl
  simpa [chanH,chanR,chanC] using h
end
section
set_option linter.unusedSimpArgs false
set_option linter.unusedVariables false
set_option maxRecDepth 100000
open Go.RowKit
theorem wp_note {o : Oper} {a : Act} {w : World} {K : Act → World → Prop} {Q : Exit → Act → World → Prop} (s x : Operand) (ho : o.op = .call { callee := .builtin .append, args := #[s, x], argTypes := #[30, 30] })
  (base:Nat) (v:Value) (n:Nat) (xs:List Value) (hs:a.eval s=v) (hown:w.ownsRow base 67 2 v n xs) (g0:Nat) (u0 u1:Value) (hu0:u0.oneCell'=true) (hu1:u1.oneCell'=true) (hx:a.eval x=.slice (some ⟨g0,0,none⟩) 1 1) (hc0:w.cell? ⟨g0,0,none⟩=some u0) (hc1:w.cell? ⟨g0,1,none⟩=some u1) (hn:n≤1073741824) (hbase:base≤w.heap.size)
  (h:∀ g cap w',w'.ownsRow base 67 2 (.slice (some ⟨g,0,none⟩) (n+1) cap) (n+1) (xs++[u0,u1])→w.grownBy w' v.ownBlock→(v.ownBlock=some g∨w.heap.size≤g)→g < w'.heap.size→K (a.put o.dst (.slice (some ⟨g,0,none⟩) (n+1) cap)) w'):Oper.wp Tryz.prog o a w K Q:=by
 obtain ⟨i0,hi,hz0,hz1,hz2⟩:=infoD
 refine wp_append_lies w s x 30 ho base 67 i0 _ 2 16 Tryz.underlying30 hi hz0 hz1 hz2 rfl (by decide) v n xs hs hown ⟨g0,0,none⟩ 1 1 [u0,u1] hx rfl (fun j u' hj=>?_) (fun u' hu'=>by simp at hu';rcases hu' with rfl | rfl<;>assumption) (by decide) (by unfold maxLen;omega) (by omega) hbase _ rfl ?_
 ·match j,hj with
  | 0,hj=>simp at hj;subst hj;simpa [Addr.add] using hc0
  | 1,hj=>simp at hj;subst hj;simpa [Addr.add] using hc1
  | j+2,hj=>simp at hj
 ·intro g cap w' q1 q2 q3 q4
  exact h g cap w' q1 q2 (by rcases q3 with q3 | q3<;>first | exact .inl q3 | exact .inr (by omega)) q4
theorem app_note {ops : Array Oper} {rest : List Oper} {o : Oper} {a : Act} {Q : Exit → Act → World → Prop} (hgd : o.guard = none) (s x : Operand) (ho : o.op = .call { callee := .builtin .append, args := #[s, x], argTypes := #[30, 30] })
  (w:World) (base:Nat) (v:Value) (n:Nat) (xs:List Value) (hs:a.eval s=v) (hown:w.ownsRow base 67 2 v n xs) (g0:Nat) (u0 u1:Value) (hu0:u0.oneCell'=true) (hu1:u1.oneCell'=true) (hx:a.eval x=.slice (some ⟨g0,0,none⟩) 1 1) (hc0:w.cell? ⟨g0,0,none⟩=some u0) (hc1:w.cell? ⟨g0,1,none⟩=some u1) (hn:n≤1073741824) (hbase:base≤w.heap.size)
  (h:∀ g cap w',w'.ownsRow base 67 2 (.slice (some ⟨g,0,none⟩) (n+1) cap) (n+1) (xs++[u0,u1])→w.grownBy w' v.ownBlock→(v.ownBlock=some g∨w.heap.size≤g)→g < w'.heap.size→wpList Tryz.prog ops Q rest (a.put o.dst (.slice (some ⟨g,0,none⟩) (n+1) cap)) w'):wpList Tryz.prog ops Q (o::rest) a w:=
 wpList_plain hgd fun _ hK=>wp_note s x ho base v n xs hs hown g0 u0 u1 hu0 hu1 hx hc0 hc1 hn hbase fun g cap w' h1 h2 h3 h4=>hK _ _ (h g cap w' h1 h2 h3 h4)
theorem OwnS.note {w w':World} {base:Nat} {v1 v2 v3 v4:Value} {L1 L2:List (Rec×Value)} {d:SD} (h:OwnS w base v1 v2 v3 L1 L2 d) (nd:ND) (ho:OwnD w' base v4 (d.tr++[nd])) (hk:∀ b,b < w.heap.size→v3.ownBlock≠some b→w'.heap[b]? =w.heap[b]?):OwnS w' base v1 v2 v4 L1 L2 ⟨d.ths,d.chs,d.tr++[nd]⟩:=by
 have kk:∀ {e:TypeId} {size n:Nat} {v:Value} {xs:List Value},w.ownsRow base e size v n xs→e≠67→∀ b,v.ownBlock=some b→w'.heap[b]? =w.heap[b]? :=fun hv hne b hb=>hk b (World.ownsRow.lt hv _ hb).2 (ownType' hv h.n hne hb)
 exact ⟨h.e1,h.e2,h.t.keepB (kk h.t.row (by decide)) (fun i x hx=>kk (h.t.inn i x hx) (by decide)),h.c.keepB (kk h.c.row (by decide)) (fun i x hx=>kk (h.c.inn i x hx) (by decide)),ho,h.sep⟩
theorem Bq.put {V:World} {z:Nat} {p0 p1 v1 v2 v3 x0 x1 x2 x3 x4:Value} (h:Bq V z p0 p1 v1 v2 v3 x0 x1 x2 x3 x4) (u0 u1 u2:Value):Bq (((V.setCell ⟨z+1,0,none⟩ u0).setCell ⟨z+1,1,none⟩ u1).setCell ⟨z+1,2,none⟩ u2) z p0 p1 u0 u1 u2 x0 x1 x2 x3 x4:=by
 have hz:=h.zz
 have B:∀ b,b≠z+1→(((V.setCell ⟨z+1,0,none⟩ u0).setCell ⟨z+1,1,none⟩ u1).setCell ⟨z+1,2,none⟩ u2).heap[b]? =V.heap[b]? :=fun b hb=>((Below.heap_setCell _ _ _ b hb).trans (Below.heap_setCell _ _ _ b hb)).trans (Below.heap_setCell _ _ _ b hb)
 have c3:∀ j,(((V.setCell ⟨z+1,0,none⟩ u0).setCell ⟨z+1,1,none⟩ u1).setCell ⟨z+1,2,none⟩ u2).cell? ⟨z+1+1+1,j,none⟩=V.cell? ⟨z+1+1+1,j,none⟩:=fun j=>World.cell?_of_block (B (z+1+1+1) (by omega))
 exact ⟨h.p.keep (fun b h1 h2=>B b (by omega)),((h.s.set0 u0).set1 u1).set2 u2,h.a.keep (B (z+1+1) (by omega)) (by simp),(c3 _).trans h.x0,(c3 _).trans h.x1,(c3 _).trans h.x2,(c3 _).trans h.x3,(c3 _).trans h.x4,h.bs.set.set.set,h.ba.set.set.set,by simpa using hz⟩
theorem Bq.put2 {V:World} {z:Nat} {p0 p1 v1 v2 v3 x0 x1 x2 x3 x4:Value} (h:Bq V z p0 p1 v1 v2 v3 x0 x1 x2 x3 x4) (u2:Value):Bq (V.setCell ⟨z+1,2,none⟩ u2) z p0 p1 v1 v2 u2 x0 x1 x2 x3 x4:=by
 have hz:=h.zz
 have B:∀ b,b≠z+1→(V.setCell ⟨z+1,2,none⟩ u2).heap[b]? =V.heap[b]? :=fun b hb=>Below.heap_setCell _ _ _ b hb
 have c3:∀ j,(V.setCell ⟨z+1,2,none⟩ u2).cell? ⟨z+1+1+1,j,none⟩=V.cell? ⟨z+1+1+1,j,none⟩:=fun j=>World.cell?_of_block (B (z+1+1+1) (by omega))
 exact ⟨h.p.keep (fun b h1 h2=>B b (by omega)),h.s.set2 u2,h.a.keep (B (z+1+1) (by omega)) (by simp),(c3 _).trans h.x0,(c3 _).trans h.x1,(c3 _).trans h.x2,(c3 _).trans h.x3,(c3 _).trans h.x4,h.bs.set,h.ba.set,by simpa using hz⟩
theorem chanH_three {o:Int} {c:CD} (hok:okC c.cap c.list.length=true) (hop:o=5∨o=6∨o=7∨o=8∨o=9):chanH o c=0∨chanH o c=1∨(chanH o c=2∧(o=5∨o=7∨o=9)):=by
 rcases hop with rfl | rfl | rfl | rfl | rfl
 ·rcases sendK_three c.cap c.list c.cl with h | h | h<;>simp [chanH,h]
 ·rcases takeK_three (cl:=c.cl) hok with h | h | h<;>simp [chanH,h]
 ·rcases sendK_three c.cap c.list c.cl with h | h | h<;>simp [chanH,h]
 ·simp [chanH]
 ·by_cases h:okC c.cap c.list.length=true∧c.cl=false
  ·left;simp [chanH,closeK,h]
  ·right;right
   have:closeK c.cap c.list c.cl=2:=by unfold closeK;rw [if_neg h]
   simp [chanH,this]
theorem chanR_fault {o:Int} {c:CD} {rg:List Int} {r b:Nat} (hop:o=5∨o=7∨o=9) (h:chanH o c=2):chanR o rg c r b=rg:=by
 rcases hop with rfl | rfl | rfl
 ·simp [chanR]
 ·have hk:sendK c.cap c.list c.cl=2:=by
   by_cases e:sendK c.cap c.list c.cl=2
   ·exact e
   ·simp [chanH,e] at h
  simp [chanR,hk]
 ·simp [chanR]
/- a step of a place of a channel -/
theorem stepO_chan (b : Nat) (t : TD) (o : Int) (r a bb n : Nat) (chs : List CD) (tr : List ND) (k : Nat) (c : CD) (hc : chs[n]? = some c) (hok : okC c.cap c.list.length = true) (hop : o = 5 ∨ o = 6 ∨ o = 7 ∨ o = 8 ∨ o = 9) :
  stepO b t ⟨o,r,a,bb,n⟩ chs tr k=if chanH o c=1 then ⟨t,chs,tr,4⟩ else if chanH o c=2 then ⟨haltT t 2,chs.set n (chanC o c (t.regs.getD a 0)),tr,0⟩ else ⟨moveT t b (chanR o t.regs c r bb) (t.pc+1),chs.set n (chanC o c (t.regs.getD a 0)),tr,0⟩:=by
 rcases hop with rfl | rfl | rfl | rfl | rfl
 ·rcases sendK_three c.cap c.list c.cl with h | h | h<;>simp [stepO,chanH,chanC,chanR,regN,hc,h]
 ·rcases takeK_three (cl:=c.cl) hok with h | h | h<;>simp [stepO,chanH,chanC,chanR,regN,putN,hc,h]
 ·rcases sendK_three c.cap c.list c.cl with h | h | h<;>simp [stepO,chanH,chanC,chanR,regN,putN,hc,h]
 ·simp [stepO,chanH,chanC,chanR,regN,putN,hc]
 ·by_cases h:closeK c.cap c.list c.cl=2
  ·simp [stepO,chanH,chanC,chanR,regN,hc,h]
  ·have h0:closeK c.cap c.list c.cl=0:=by
    unfold closeK at h ⊢
    split
    ·rfl
    ·rename_i q
     rw [if_neg q] at h
     exact absurd rfl h
   simp [stepO,chanH,chanC,chanR,regN,hc,h0]
end
section
set_option linter.unusedSimpArgs false
set_option linter.unusedVariables false
set_option maxRecDepth 100000
open Go.RowKit
set_option maxHeartbeats 4000000 in
theorem sq10 (p1 p2 : Option Addr) (a1 a2 lo hi base : Nat) (p : PD) (v1 v2 v3 : Value) (L1 L2 : List (Rec × Value)) (d : SD) (k : Nat) (t : TD) (w : World) (hP : ProgR w lo hi p1 p2 p) (hB : hi ≤ base) (hO : OwnS w base v1 v2 v3 L1 L2 d) (hb : base ≤ w.heap.size) (hR : Right p d) (ht : d.ths[k]? = some t) (hst : t.st = 0) (ho : (insOf p d k).o = 10) :
  Calls Tryz.prog 54 #[.agg #[.slice p1 p.caps.length a1,.slice p2 p.bods.length a2],.agg #[v1,v2,v3],.int .i64 k] w fun e w'=>StepY w base (HitS v1 v2 v3 L1 L2) (outOf p d k) d k e w':=by
 obtain ⟨q,g1,c1,gr,cr,gb,ob,gi,oi,cb,nb,s2,s3,c2,c3,y,O⟩:=hO.open hP hB hb hR ht
 rw [O.ou]
 have hcl:=hR.pc
 have hbl:=hR.bd k O.kb
 have hpb:=hR.pb
 have hnl:=hR.nl
 have HCH:=hidW hR.cl
 have HTL:=hidW hR.tl
 have HR:=hidW hR
 obtain ⟨x,hx⟩:∃ x,insOf p d k=x:=⟨_,rfl⟩
 rw [hx] at O ho ⊢
 clear hx
 obtain ⟨e1,e2,e3,ep,hy,y1,y2,hq,nq,kl,kb,hbn,t0,t1,t2,b0,⟨x0,x1,x2,x3,x4⟩,rr,f1,fr,z1,zr,zb,zi,i1,ir,ib,ii,n1,hok,-,h4⟩:=O
 subst e1 e2 e3 ep
 rw [hbn] at hbl
 have HBN:=hidW hbn
 unfold insX Plain.insB at hok
 rw [decide_eq_true_eq] at hok
 obtain ⟨o,r,a,b,n⟩:=x
 simp only at ho hok x0 x1 x2 x3 x4
 subst ho
 obtain ⟨r',hr'⟩:∃ r':Nat,r=r':=⟨r.toNat,by omega⟩
 subst hr'
 have br0:(0:Int)≤(r':Int):=by omega
 have br1:(r':Int) < 4:=by omega
 have br2:r' < 4:=by omega
 obtain ⟨a',ha'⟩:∃ a':Nat,a=a':=⟨a.toNat,by omega⟩
 subst ha'
 have ba0:(0:Int)≤(a':Int):=by omega
 have ba1:(a':Int) < 4:=by omega
 have ba2:a' < 4:=by omega
 obtain ⟨b',hb'⟩:∃ b':Nat,b=b':=⟨b.toNat,by omega⟩
 subst hb'
 have bb0:(0:Int)≤(b':Int):=by omega
 have bb1:(b':Int) < 4:=by omega
 have bb2:b' < 4:=by omega
 obtain ⟨pc,rg,st⟩:=t
 simp only at hq hst h4 rr t0 t2
 subst hq hst
 have i0:(0:Int)≤(k:Int):=by omega
 have j1:(k:Int) < (d.ths.length:Int):=by omega
 have j2:(k:Int) < (p.bods.length:Int):=by omega
 have j3:(0:Int)≤(q:Int):=by omega
 have j4:(q:Int) < (nb:Int):=by omega
 have w1:IntKind.i64.wrap ((q:Int)+1)=(q:Int)+1:=Go.IntWalk.i64_in _ (by omega)
 obtain ⟨W,hW⟩:∃ W,(((w.alloc (.cells #[.slice p1 p.caps.length a1,.slice (some ⟨gb,ob,none⟩) p.bods.length a2] 27)).alloc (.cells #[.slice (some ⟨g1,0,none⟩) d.ths.length c1,.slice s2 d.chs.length c2,.slice s3 d.tr.length c3] 32)).alloc (.cells #[.slice none 0 0,.slice none 0 0,.slice none 0 0] 32))=W:=⟨_,rfl⟩
 obtain ⟨V,hV⟩:∃ V,W.alloc (.cells #[.int .i64 10,.int .i64 r',.int .i64 a',.int .i64 b',.int .i64 n] 85)=V:=⟨_,rfl⟩
 obtain ⟨BX,KV⟩:=bq_new hW hV
 have HW:=hidW hW
 have HV:=hidW hV
 have HBX:=hidW BX
 have HKV:=hidW KV
 have HO:=hidW hO
 have HP:=hidW hP
 have HT:=hidW ht
 have HY:=hidW hy
 have HY2:=hidW y2
 have H4:=hidW h4
 have RR:=hidW rr
 have F1:=hidW f1
 have FR:=hidW fr
 have HOK:=hidW hok
 have y0:g1 < w.heap.size+1:=by omega
 have y3:g1 < w.heap.size+1+1:=by omega
 have y4:g1 < w.heap.size+1+1+1:=by omega
 have y5:gb < w.heap.size+1:=by omega
 have y6:gb < w.heap.size+1+1:=by omega
 have y7:gi < w.heap.size+1:=by omega
 have y8:gi < w.heap.size+1+1:=by omega
 clear hW hV BX KV hO hP ht hy y1 y2 h4 rr f1 fr hok hR hbn
 go_enter Tryz.func54,Tryz.ntmps54
 go_upto_region 14 with fail
 rw [HW.out,HV.out]
 clear x0 x1 x2 x3 x4 t0 t1 t2 b0 y0 y3 y4 y5 y6 y7 y8
 obtain ⟨⟨m0,m1⟩,⟨v0,v1',v2',fs,zs⟩,⟨w0,w1',w2',fa,za⟩,x0,x1,x2,x3,x4,bs,ba,zz⟩:=HBX.out
 have zv1:w.heap.size < V.heap.size:=by omega
 have zv2:g1 < V.heap.size:=by omega
 have zv3:gr < V.heap.size:=by omega
 have ng00:¬ gr=w.heap.size:=by omega
 have nh00:¬ w.heap.size=gr:=by omega
 have ng01:¬ gr=w.heap.size+1:=by omega
 have nh01:¬ w.heap.size+1=gr:=by omega
 have ng02:¬ gr=w.heap.size+1+1:=by omega
 have nh02:¬ w.heap.size+1+1=gr:=by omega
 have ng03:¬ gr=w.heap.size+1+1+1:=by omega
 have nh03:¬ w.heap.size+1+1+1=gr:=by omega
 have ng10:¬ g1=w.heap.size:=by omega
 have nh10:¬ w.heap.size=g1:=by omega
 have ng11:¬ g1=w.heap.size+1:=by omega
 have nh11:¬ w.heap.size+1=g1:=by omega
 have ng12:¬ g1=w.heap.size+1+1:=by omega
 have nh12:¬ w.heap.size+1+1=g1:=by omega
 have ng13:¬ g1=w.heap.size+1+1+1:=by omega
 have nh13:¬ w.heap.size+1+1+1=g1:=by omega
 obtain ⟨va,hva⟩:∃ v,rg.getD a' 0=v:=⟨_,rfl⟩
 have HVa:=hidW hva
 clear hva
 have la:V.cell? ⟨gr,a',none⟩=some (.int .i64 va):=by rw [← HVa.out];exact (HKV.out.cell (p:=⟨gr,a',none⟩) zr).trans (RR.out a' (by omega))
 have ff:∀ j,V.frozen? ⟨gr,j,none⟩=false:=fun j=>(HKV.out.frozen (p:=⟨gr,j,none⟩) zr).trans (FR.out j)
 by_cases hf:d.tr.length=4000
 ·have hfi:((d.tr.length:Int)==4000)=true:=by simp;omega
  have HF:=hidW hf
  clear hf
  go_wp2
  refine bodyPost_ret (v:=.tuple #[.agg #[.slice (some ⟨g1,0,none⟩) d.ths.length c1,.slice s2 d.chs.length c2,.slice s3 d.tr.length c3],.int .i64 3]) (by simp [results,Tryz.results54,go_sem,w0,w1',w2',fa]) rfl ?_
  refine ⟨_,_,_,_,_,_,_,_,_,retI (by simp [stepO,HF.out]),fun h=>?_,?_,fun b h1 _=>set3_off (by omega) (HKV.out.block b h1)⟩
  ·exfalso
   simp [stepO,HF.out] at h
  ·refine Below.setCell (Below.setCell (Below.setCell (HKV.out.mono hb) ?_ _) ?_ _) ?_ _<;>(show base≤w.heap.size+1+1;omega)
 ·have hfi:((d.tr.length:Int)==4000)=false:=by simp;omega
  have HF:=hidW hf
  clear hf
  go_wp2_with fail
  have HTN:=hidW HO.out.n
  have TB:Hid (∀ q,(Value.slice s3 d.tr.length c3).ownBlock=some q→q < w.heap.size):=fun q hq=>(World.ownsRow.lt HTN.out _ hq).2
  have TN:∀ q,w.heap.size≤q→(Value.slice s3 d.tr.length c3).ownBlock≠some q:=fun q hq e=>by have:=TB.out q e;omega
  have TR:(Value.slice s3 d.tr.length c3).ownBlock≠some gr:=fun e=>ownType' HTN.out (HO.out.t.inn k y HY.out) (by decide) e (by rw [HY2.out];rfl)
  have T1:(Value.slice s3 d.tr.length c3).ownBlock≠some g1:=fun e=>ownType' HTN.out HO.out.t.row (by decide) e rfl
  have hne:=extN_ne V (Value.slice s3 d.tr.length c3).ownBlock
  have u1:=ExtN.fit x2 zz (TN _ (by omega))
  have u2:=ExtN.fit v2' zs (TN _ (by omega))
  have ua:=ExtN.fit la zv3 TR
  refine regionMix V (CN V (Value.slice s3 d.tr.length c3).ownBlock) 9 11 (by kernel_rfl) (by kernel_rfl) (fun _ _ d _ _ h=>by cases d<;>exact h) (CN.drew _ _) ?_
  unfold CN
  dsimp only [List.take,List.drop]
  repeat (go_big_quiet_step (fail))
  refine wpQuiet_nil ?_
  clear hne u1 u2 ua
  have OT:=hidW (show OwnD (V.drew.alloc (.cells #[.int .i64 k,.int .i64 va] 67)) base (.slice s3 d.tr.length c3) d.tr from ownKeep' HTN.out (fun q hq=>by have:=TB.out q hq;exact (Below.heap_alloc V.drew _ _ (by show q < V.heap.size;omega)).trans (HKV.out.block q this)))
  have QY:=hidW (HO.out.keep (w':=V.drew.alloc (.cells #[.int .i64 k,.int .i64 va] 67)) (fun b _ hb1=>(Below.heap_alloc V.drew _ _ (by show b < V.heap.size;omega)).trans (HKV.out.block b hb1)))
  unfold wpListC
  go_wp2
  refine And.intro (fun _ hc=>CN.below hc ((Below.refl _ _).alloc (Nat.le_refl _) _)) ?_
  unfold wpListC
  refine app_note rfl _ _ rfl (V.drew.alloc (.cells #[.int .i64 k,.int .i64 va] 67)) base (.slice s3 d.tr.length c3) d.tr.length (flatN d.tr) rfl OT.out V.heap.size (.int .i64 k) (.int .i64 va) rfl rfl rfl (by simp [go_sem]) (by simp [go_sem]) (by omega) (by simp;show base≤V.heap.size+1;omega) ?_
  intro g6 c6 w6 ho6 hg6 hn6 hl6
  refine And.intro (fun _ hc=>CN.grown hc hg6) ?_
  refine listC_late _ _ _ _ (by decide) ?_
  have kb6:∀ b,w.heap.size≤b→b < V.heap.size→w6.heap[b]? =V.heap[b]? :=fun b h1 h2=>(hg6.block b (by simp;show b < V.heap.size+1;omega) (fun e=>TN b h1 e.symm)).trans (Below.heap_alloc V.drew _ _ h2)
  have zs6:V.heap.size < w6.heap.size:=by have:=hg6.size;simp at this;have h9:V.drew.heap.size=V.heap.size:=rfl;omega
  have Q6:=hidW (QY.out.note (⟨k,va⟩:ND) (v4:=.slice (some ⟨g6,0,none⟩) (d.tr.length+1) c6) (by
   show w6.ownsRow base 67 2 _ (d.tr++[(⟨k,va⟩:ND)]).length (flatN (d.tr++[(⟨k,va⟩:ND)]))
   rw [flatN_app,List.length_append]
   exact ho6) (fun b h1 h2=>hg6.block b h1 (fun e=>h2 e.symm)))
  have K6:=hidW ((HKV.out.mono hb).trans (Below.grown (((Below.drew (Below.refl _ _)).alloc (by show base≤V.heap.size;omega) _)) hg6 (by simp;show base≤V.heap.size+1;omega) (fun q hq=>(World.ownsRow.lt HTN.out _ hq).1)))
  have HB6:=hidW (HBX.out.keep kb6 (by omega))
  have c6a:Hid (∀ b,b < w.heap.size→(Value.slice s3 d.tr.length c3).ownBlock≠some b→w6.heap[b]? =w.heap[b]?):=fun b h1 h2=>(hg6.block b (by simp;show b < V.heap.size+1;omega) (fun e=>h2 e.symm)).trans ((Below.heap_alloc V.drew _ _ (by show b < V.heap.size;omega)).trans (HKV.out.block b h1))
  clear m0 m1 v0 v1' v2' fs zs w0 w1' w2' fa za x0 x1 x2 x3 x4 bs ba zz zv1 zv2 zv3 ff la ng00 nh00 ng01 nh01 ng02 nh02 ng03 nh03 ng10 nh10 ng11 nh11 ng12 nh12 ng13 nh13 ho6 hg6 hn6 hl6 kb6 OT QY HTN TB TN TR
  obtain ⟨⟨m0,m1⟩,⟨v0,v1',v2',fs,zs⟩,⟨w0,w1',w2',fa,za⟩,x0,x1,x2,x3,x4,bs,ba,zz⟩:=HB6.out
  have zv1:w.heap.size < w6.heap.size:=by omega
  go_wp2_with fail
  obtain ⟨U,hU⟩:∃ U,w6.setCell ⟨w.heap.size+1,2,none⟩ (.slice (some ⟨g6,0,none⟩) (d.tr.length+1) c6)=U:=⟨_,rfl⟩
  rw [hU]
  have HU:=hidW (show Bq U w.heap.size _ _ _ _ _ _ _ _ _ _ from by rw [← hU];exact HB6.out.put2 _)
  have O9:=hidW (show OwnS U base _ _ _ L1 L2 ⟨d.ths,d.chs,d.tr++[⟨k,va⟩]⟩ from by rw [← hU];exact Q6.out.offB bs)
  have B9:=hidW (show Below base w U from by rw [← hU];exact Below.setCell K6.out (by show base≤w.heap.size+1;omega) _)
  have zU:w6.heap.size≤U.heap.size:=by rw [← hU];simp
  have F9:Hid (∀ b,b < w.heap.size→¬ HitS (.slice (some ⟨g1,0,none⟩) d.ths.length c1) (.slice s2 d.chs.length c2) (.slice s3 d.tr.length c3) L1 L2 b→U.heap[b]? =w.heap[b]?):=fun b h1 h2=>by rw [← hU,Below.heap_setCell _ _ _ b (by show b≠w.heap.size+1;omega)];exact c6a.out b h1 (fun e=>h2 (.inr (.inr e)))
  clear hU m0 m1 v0 v1' v2' fs zs w0 w1' w2' fa za x0 x1 x2 x3 x4 bs ba zz zv1 HB6 Q6 K6
  have HBX:=HU
  have T9:=HT
  have K9:Hid (∀ b,w.heap.size≤b→b < U.heap.size→U.heap[b]? =U.heap[b]?):=fun b _ _=>rfl
  have Z9:U.heap.size≤U.heap.size:=Nat.le_refl _
  have GO:=hidW (l4Go_any p1 (some ⟨gb,ob,none⟩) a1 a2 lo hi base p _ _ _ _ _ _ k ⟨q,rg,0⟩ (q+1) _ (ProgR.keep' HP.out (fun b h1 h2=>B9.out.block b (by omega))) hB O9.out (by have:=HKV.out.size;omega) T9.out rfl kb hpb (by rw [HBN.out];exact hbl))
  refine Calls.mono GO.out ?_
  rintro e w2 ⟨L1',rfl,hO2,hb2,hf2⟩
  have O2:=hidW hO2
  have B2:=hidW (B9.out.trans hb2)
  have F2:Hid (∀ b,b < w.heap.size→¬ HitS _ _ _ L1 L2 b→w2.heap[b]? =w.heap[b]?):=fun b h1 h2=>(hf2 b (by have:=HKV.out.size;omega) (fun e=>h2 (.inl (.inl e)))).trans (F9.out b h1 h2)
  have HB2:=hidW (HBX.out.keep (V':=w2) (fun b h1 h2=>(hf2 b (by have:=Z9;omega) (fun e=>by have e':g1=b:=Option.some.inj e;omega)).trans (K9.out b h1 h2)) (by have:=hb2.size;have:=Z9;omega))
  have z2:=hb2.size
  clear GO hO2 hb2 hf2
  obtain ⟨⟨m0,m1⟩,⟨v0,v1',v2',fs,zs⟩,⟨w0,w1',w2',fa,za⟩,x0,x1,x2,x3,x4,bs,ba,zz⟩:=HB2.out
  go_wp2
  refine bodyPost_ret (v:=.tuple #[.agg #[.slice (some ⟨g1,0,none⟩) d.ths.length c1,.slice s2 d.chs.length c2,.slice (some ⟨g6,0,none⟩) (d.tr.length+1) c6],.int .i64 0]) (by simp [results,Tryz.results54,go_sem,w0,w1',w2',fa]) rfl ?_
  refine ⟨_,_,_,_,_,_,_,_,_,retI (by simp [stepO,HF.out]),fun _=>⟨L1',L2,?_⟩,?_,fun b h1 h2=>set3_off (by omega) (F2.out b h1 h2)⟩
  ·have q2:=O2.out
   rw [HBN.out] at q2
   have E:(⟨d.ths.set k (moveT ⟨q,rg,0⟩ nb rg (q+1)),d.chs,d.tr++[⟨k,va⟩]⟩:SD)=doneS d k (stepO nb ⟨q,rg,0⟩ ⟨10,r',a',b',n⟩ d.chs d.tr k):=by have h9:=HVa.out;rw [List.getD_eq_getElem?_getD] at h9;simp [doneS,stepO,regN,h9,HF.out]
   rw [E] at q2
   exact ((q2.offB ba).offB ba.set).offB ba.set.set
  ·refine Below.setCell (Below.setCell (Below.setCell B2.out ?_ _) ?_ _) ?_ _<;>(show base≤w.heap.size+1+1;omega)
end
end Go.Proofs.YtknffngbdakblaaGreat
