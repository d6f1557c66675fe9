/- Rows of rows of writes that append makes. No condition. Memories whose rows are owned whole: rows of writes and rows of rows that append may grow. No condition. What Load is made of, in the program and in the specification. Conditions: memories that are counted, views of at most 2^20. -/
import Derived.Test.YtlbeploopclegaaGreatPG00
import Derived.Test.YtlbeploopclegaaGreatPG01
import Derived.Test.YtlbeploopclegaaGreatPG06
import Derived.Test.YtlbeploopclegaaGreatPG07
import Derived.Test.YtlbeploopclegaaGreatPMemOk
namespace Go.Proofs.YtlbeploopclegaaGreat
section
set_option linter.unusedSimpArgs false
set_option linter.unusedVariables false
set_option maxRecDepth 100000
open Go.RowKit
def RS.val (r:RS):Value:=.slice r.s r.vs.length r.c
structure OM (w:World) (B:Nat) (v:Value) (S:List RS) (m:List (List WD)):Prop where
 n:S.length=m.length
 row:w.ownsRow B 97 1 v S.length (S.map RS.val)
 r:∀ (i:Nat) (r:RS) (l:List WD),S[i]? =some r→m[i]? =some l→RO w B w.heap.size r l
 d:(mAs S).Nodup
 sep:∀ a∈mAs S,v.ownBlock≠some a.block
theorem OM.mo {w:World} {B:Nat} {v:Value} {S:List RS} {m:List (List WD)} (h:OM w B v S m):∃ s c,v=.slice s m.length c∧MO w B w.heap.size s S m:=by
 rcases Nat.eq_zero_or_pos S.length with h0 | hpos
 ·obtain ⟨s,c,e⟩:=ownSl h.row
  have h1:=h.n
  have hm:m=[]:=List.length_eq_zero_iff.1 (by omega)
  exact ⟨s,c,by rw [e,h1],h1,.inl hm,h.r,h.d⟩
 ·obtain ⟨g,cap,rfl,-⟩:=World.ownsRow.form h.row hpos
  have hlt:=World.ownsRow.lt h.row g rfl
  refine ⟨_,_,by rw [h.n],h.n,.inr ⟨g,0,rfl,hlt.1,hlt.2,fun i r hr=>?_⟩,h.r,h.d⟩
  have hi':=(List.getElem?_eq_some_iff.1 hr).1
  rw [Nat.zero_add,World.ownsRow.cellAt h.row i (by omega),List.getElem?_map,hr]
  rfl
theorem OM.blk {w:World} {B:Nat} {v:Value} {S:List RS} {m:List (List WD)} (h:OM w B v S m) {a:Addr} (ha:a∈mAs S):B≤a.block∧a.block < w.heap.size:=by
 obtain ⟨s,c,-,hm⟩:=h.mo
 exact hm.blk ha
theorem infoW:∃ i,Tryz.prog.info? 97=some i∧i.zero=some (.slice none 0 0)∧i.size=1∧i.bytes=24:=⟨_,rfl,rfl,rfl,rfl⟩
theorem wp_rowW {o : Oper} {a : Act} {w : World} {K : Act → World → Prop} {Q : Exit → Act → World → Prop} (s x : Operand) (ho : o.op = .call { callee := .builtin .append, args := #[s, x], argTypes := #[33, 33] })
  (base:Nat) (v:Value) (n:Nat) (xs:List Value) (hs:a.eval s=v) (hown:w.ownsRow base 97 1 v n xs) (g0:Nat) (u:Value) (hu:u.oneCell'=true) (hx:a.eval x=.slice (some ⟨g0,0,none⟩) 1 1) (hc:w.cell? ⟨g0,0,none⟩=some u) (hn:n≤1073741824) (hbase:base≤w.heap.size)
  (h:∀ g cap w',w'.ownsRow base 97 1 (.slice (some ⟨g,0,none⟩) (n+1) cap) (n+1) (xs++[u])→w.grownBy w' v.ownBlock→(v.ownBlock=some g∨w.heap.size≤g)→g < w'.heap.size→K (a.put o.dst (.slice (some ⟨g,0,none⟩) (n+1) cap)) w'):Oper.wp Tryz.prog o a w K Q:=by
 obtain ⟨i0,hi,hz0,hz1,hz2⟩:=infoW
 refine wp_append_lies w s x 33 ho base 97 i0 _ 1 24 Tryz.underlying33 hi hz0 hz1 hz2 rfl (by decide) v n xs hs hown ⟨g0,0,none⟩ 1 1 [u] hx rfl (fun j u' hj=>?_) (fun u' hu'=>by simp at hu';subst hu';exact hu) (by decide) (by unfold maxLen;omega) (by omega) hbase _ rfl ?_
 ·match j,hj with
  | 0,hj=>simp at hj;subst hj;simpa [Addr.add] using hc
  | j+1,hj=>simp at hj
 ·intro g cap w' q1 q2 q3 q4
  exact h g cap w' q1 q2 (by rcases q3 with q3 | q3<;>first | exact .inl q3 | exact .inr (by omega)) q4
theorem app_rowW {ops : Array Oper} {rest : List Oper} {o : Oper} {a : Act} {Q : Exit → Act → World → Prop} (hgd : o.guard = none) (s x : Operand) (ho : o.op = .call { callee := .builtin .append, args := #[s, x], argTypes := #[33, 33] })
  (w:World) (base:Nat) (v:Value) (n:Nat) (xs:List Value) (hs:a.eval s=v) (hown:w.ownsRow base 97 1 v n xs) (g0:Nat) (u:Value) (hu:u.oneCell'=true) (hx:a.eval x=.slice (some ⟨g0,0,none⟩) 1 1) (hc:w.cell? ⟨g0,0,none⟩=some u) (hn:n≤1073741824) (hbase:base≤w.heap.size)
  (h:∀ g cap w',w'.ownsRow base 97 1 (.slice (some ⟨g,0,none⟩) (n+1) cap) (n+1) (xs++[u])→w.grownBy w' v.ownBlock→(v.ownBlock=some g∨w.heap.size≤g)→g < w'.heap.size→wpList Tryz.prog ops Q rest (a.put o.dst (.slice (some ⟨g,0,none⟩) (n+1) cap)) w'):wpList Tryz.prog ops Q (o::rest) a w:=
 wpList_plain hgd fun _ hK=>wp_rowW s x ho base v n xs hs hown g0 u hu hx hc hn hbase fun g cap w' h1 h2 h3 h4=>hK _ _ (h g cap w' h1 h2 h3 h4)
end
section
set_option linter.unusedSimpArgs false
set_option linter.unusedVariables false
set_option maxRecDepth 100000
open Go.RowKit
def flatV:List VS→List WD→List Value
 | x::r,y::t=>.int .i64 y.v::.slice x.s x.n x.c::flatV r t
 | _,_=>[]
theorem flatV_len:∀ (vs:List VS) (l:List WD),vs.length=l.length→(flatV vs l).length=vs.length * 2
 | [],[],_=>rfl
 | x::r,y::t,h=>by
  have:=flatV_len r t (by simpa using h)
  simp [flatV,this]
  omega
 | [],_::_,h=>by simp at h
 | _::_,[],h=>by simp at h
theorem flatV_at:∀ (vs:List VS) (l:List WD) (i:Nat) (x:VS) (y:WD),vs[i]? =some x→l[i]? =some y→(flatV vs l)[i * 2]? =some (.int .i64 y.v)∧(flatV vs l)[i * 2+1]? =some (.slice x.s x.n x.c)
 | [],_,i,x,y,h,_=>by simp at h
 | _::_,[],i,x,y,_,h=>by simp at h
 | a::r,b::t,0,x,y,h,h'=>by
  simp at h h'
  subst h h'
  exact ⟨rfl,rfl⟩
 | a::r,b::t,i+1,x,y,h,h'=>by
  have e:=flatV_at r t i x y (by simpa using h) (by simpa using h')
  have e0:(i+1) * 2=i * 2+2:=by omega
  rw [e0]
  exact e
theorem flatV_app (x:VS) (y:WD):∀ (vs:List VS) (l:List WD),vs.length=l.length→flatV (vs++[x]) (l++[y])=flatV vs l++[.int .i64 y.v,.slice x.s x.n x.c]
 | [],[],_=>rfl
 | a::r,b::t,h=>by
  have:=flatV_app x y r t (by simpa using h)
  simp [flatV,this]
 | [],_::_,h=>by simp at h
 | _::_,[],h=>by simp at h
def TyI (w:World) (b:Nat):Prop:=∃ cs f,w.heap[b]? =some (.cells cs 3 f)
def vsA:List VS→List Addr
 | []=>[]
 | x::r=>vAs x++vsA r
theorem mem_vsA {a:Addr}:∀ {vs:List VS},a∈vsA vs↔∃ x∈vs,a∈vAs x
 | []=>by simp [vsA]
 | y::r=>by simp [vsA,mem_vsA (vs:=r)]
theorem vsA_app (x:VS):∀ (vs:List VS),vsA (vs++[x])=vsA vs++vAs x
 | []=>by simp [vsA]
 | y::r=>by simp [vsA,vsA_app x r]
structure ORow (w:World) (B:Nat) (r:RS) (l:List WD):Prop where
 n:r.vs.length=l.length
 own:w.ownsRow B 99 2 r.val r.vs.length (flatV r.vs l)
 v:∀ (i:Nat) (x:VS) (y:WD),r.vs[i]? =some x→l[i]? =some y→VO w B w.heap.size x y.vw
 vt:∀ a∈vsA r.vs,TyI w a.block
 vd:(vsA r.vs).Nodup
theorem rAs_nodup {g:Nat}:∀ (vs:List VS) (k:Nat),(∀ a∈vsA vs,a.block≠g)→(vsA vs).Nodup→(rAs (some ⟨g,0,none⟩) vs k).Nodup
 | [],k,_,_=>by simp [rAs]
 | x::r,k,h,hd=>by
  rw [vsA] at hd
  obtain ⟨d1,d2,d3⟩:=List.nodup_append.1 hd
  have ih:=rAs_nodup (g:=g) r (k+1) (fun a ha=>h a (by simp [vsA,ha])) d2
  rw [rAs]
  refine List.nodup_cons.2 ⟨fun hm=>?_,List.nodup_append.2 ⟨d1,ih,fun a ha b hb e=>?_⟩⟩
  ·rcases List.mem_append.1 hm with hm | hm
   ·exact h _ (by rw [vsA];exact List.mem_append_left _ hm) rfl
   ·rcases mem_rAs.1 hm with ⟨i,hi',e⟩ | ⟨x',hx',hax⟩
    ·simp [adr] at e;omega
    ·exact h _ (by rw [vsA];exact List.mem_append_right _ (mem_vsA.2 ⟨x',hx',hax⟩)) rfl
  ·subst e
   rcases mem_rAs.1 hb with ⟨i,hi',e⟩ | ⟨x',hx',hax⟩
   ·exact h a (by rw [vsA];exact List.mem_append_left _ ha) (by rw [e];rfl)
   ·exact d3 a ha a (mem_vsA.2 ⟨x',hx',hax⟩) rfl
theorem ORow.blkT {w:World} {B:Nat} {r:RS} {l:List WD} (h:ORow w B r l) {k:Nat} (hk:r.val.ownBlock=some k):∃ cs,w.heap[k]? =some (.cells cs 99 (0,0)):=by
 rcases h.own.2 with ⟨e,-⟩ | ⟨g,cap,cur,e,-,c,-⟩
 ·rw [e] at hk;cases hk
 ·rw [e] at hk
  injection hk with hk
  have hk:g=k:=hk
  subst hk
  exact ⟨_,c⟩
theorem ORow.sepV {w:World} {B:Nat} {r:RS} {l:List WD} (h:ORow w B r l) {k:Nat} (hk:r.val.ownBlock=some k) {a:Addr} (ha:TyI w a.block):a.block≠k:=by
 obtain ⟨cs,h1⟩:=h.blkT hk
 obtain ⟨cs',f,h2⟩:=ha
 intro e
 rw [e,h1] at h2
 injection h2 with h2
 injection h2 with _ h2
 exact absurd h2 (by decide)
theorem ORow.ro {w:World} {B:Nat} {r:RS} {l:List WD} (h:ORow w B r l):RO w B w.heap.size r l:=by
 refine ⟨h.n,?_,h.v,fun x hx a ha g o e=>?_,?_⟩
 ·rcases Nat.eq_zero_or_pos r.vs.length with h0 | hpos
  ·exact .inl (List.length_eq_zero_iff.1 (by have:=h.n;omega))
  ·obtain ⟨g,cap,e,-⟩:=World.ownsRow.form h.own hpos
   have hlt:=World.ownsRow.lt h.own g (by rw [e];rfl)
   have e2:r.s=some ⟨g,0,none⟩:=by unfold RS.val at e;injection e with e
   have e3:r.c=cap:=by unfold RS.val at e;injection e
   refine .inr ⟨g,0,e2,hlt.1,hlt.2,fun i x y hx hy=>?_⟩
   have hi':=(List.getElem?_eq_some_iff.1 hx).1
   have ho:w.ownsRow B 99 2 (.slice (some ⟨g,0,none⟩) r.vs.length cap) r.vs.length (flatV r.vs l):=by rw [← e];exact h.own
   obtain ⟨f1,f2⟩:=flatV_at r.vs l i x y hx hy
   rw [Nat.zero_add]
   exact ⟨(World.ownsRow.cellAt ho (i * 2) (by omega)).trans f1,World.ownsRow.frozenAt ho _,(World.ownsRow.cellAt ho (i * 2+1) (by omega)).trans f2⟩
 ·exact h.sepV (k:=g) (by unfold RS.val;rw [e];rfl) (h.vt a (mem_vsA.2 ⟨x,hx,ha⟩))
 ·rcases Nat.eq_zero_or_pos r.vs.length with h0 | hpos
  ·rw [List.length_eq_zero_iff.1 h0];simp [rAs]
  ·obtain ⟨g,cap,e,-⟩:=World.ownsRow.form h.own hpos
   have e2:r.s=some ⟨g,0,none⟩:=by unfold RS.val at e;injection e with e
   rw [e2]
   exact rAs_nodup r.vs 0 (fun a ha=>h.sepV (k:=g) (by rw [e];rfl) (h.vt a ha)) h.vd
theorem ORow.blk {w:World} {B:Nat} {r:RS} {l:List WD} (h:ORow w B r l) {a:Addr} (ha:a∈vsA r.vs):B≤a.block∧a.block < w.heap.size:=by
 obtain ⟨x,hx,hax⟩:=mem_vsA.1 ha
 exact h.ro.blk (mem_rAs.2 (.inr ⟨x,hx,hax⟩))
theorem ORow.kept {w w':World} {B:Nat} {r:RS} {l:List WD} (h:ORow w B r l) (h1:∀ k,r.val.ownBlock=some k→w'.heap[k]? =w.heap[k]?) (h2:∀ a∈vsA r.vs,w'.heap[a.block]? =w.heap[a.block]?) (hs:w.heap.size≤w'.heap.size):ORow w' B r l:=by
 refine ⟨h.n,ownKeep' h.own h1,fun i x y hx hy=>?_,fun a ha=>?_,h.vd⟩
 ·have hv:=h.v i x y hx hy
  refine ⟨hv.n,?_⟩
  rcases hv.c with h0 | ⟨g,o,es,b1,b2,hc⟩
  ·exact .inl h0
  ·refine .inr ⟨g,o,es,b1,by omega,fun j hj=>?_⟩
   have hne:w'.heap[g]? =w.heap[g]? :=by
    have:=h2 (adr x.s j) (mem_vsA.2 ⟨x,List.mem_of_getElem? hx,mem_vAs.2 ⟨j,by rw [hv.n];exact hj,rfl⟩⟩)
    rw [es] at this
    exact this
   exact ⟨(World.cell?_of_block (w:=w) hne).trans (hc j hj).1,(World.frozen?_of_block (w:=w) hne).trans (hc j hj).2⟩
 ·obtain ⟨cs,f,e⟩:=h.vt a ha
  exact ⟨cs,f,(h2 a ha).trans e⟩
theorem ORow.below {w w':World} {B:Nat} {r:RS} {l:List WD} (h:ORow w B r l) (hb:Below w.heap.size w w'):ORow w' B r l:=
 h.kept (fun k e=>hb.block k (World.ownsRow.lt h.own _ e).2) (fun a ha=>hb.block _ (h.blk ha).2) hb.size
theorem ORow.low {w:World} {B B':Nat} {r:RS} {l:List WD} (h:ORow w B r l) (hb:B'≤B):ORow w B' r l:=
 ⟨h.n,ownLow' h.own hb,fun i x y hx hy=>(h.v i x y hx hy).mono hb (Nat.le_refl _),h.vt,h.vd⟩
/- a row that append has grown by one write -/
theorem ORow.push {w w2 : World} {B g cap : Nat} {r : RS} {l : List WD} (x : VS) (y : WD) (h : ORow w B r l) (hx : VO w B w.heap.size x y.vw) (hxt : ∀ a ∈ vAs x, TyI w a.block) (hxd : (vAs x).Nodup) (hd : ∀ a ∈ vsA r.vs, a ∉ vAs x)
  (h2:w2.ownsRow B 99 2 (.slice (some ⟨g,0,none⟩) (r.vs.length+1) cap) (r.vs.length+1) (flatV r.vs l++[.int .i64 y.v,.slice x.s x.n x.c])) (hg:w.grownBy w2 r.val.ownBlock):ORow w2 B ⟨some ⟨g,0,none⟩,cap,r.vs++[x]⟩ (l++[y]):=by
 have hn:=h.n
 have kp:∀ a:Addr,a.block < w.heap.size→TyI w a.block→w2.heap[a.block]? =w.heap[a.block]? :=fun a ha ht=>hg.block _ ha (fun e=>h.sepV (k:=a.block) e.symm ht rfl)
 have hv2:∀ (x':VS) (l':List Int),VO w B w.heap.size x' l'→(∀ a∈vAs x',TyI w a.block)→VO w2 B w2.heap.size x' l':=fun x' l' hv ht=>by
  refine ⟨hv.n,?_⟩
  rcases hv.c with h0 | ⟨g',o,es,b1,b2,hc⟩
  ·exact .inl h0
  ·refine .inr ⟨g',o,es,b1,by have:=hg.size;omega,fun j hj=>?_⟩
   have hne:w2.heap[g']? =w.heap[g']? :=by
    have hm:adr x'.s j∈vAs x':=mem_vAs.2 ⟨j,by rw [hv.n];exact hj,rfl⟩
    have:=kp (adr x'.s j) (by rw [es];exact b2) (ht _ hm)
    rw [es] at this
    exact this
   exact ⟨(World.cell?_of_block (w:=w) hne).trans (hc j hj).1,(World.frozen?_of_block (w:=w) hne).trans (hc j hj).2⟩
 refine ⟨by simp [hn],?_,fun i x1 y1 e1 e2=>?_,fun a ha=>?_,?_⟩
 ·show w2.ownsRow B 99 2 (.slice (some ⟨g,0,none⟩) (r.vs++[x]).length cap) (r.vs++[x]).length (flatV (r.vs++[x]) (l++[y]))
  rw [flatV_app x y r.vs l hn]
  simpa using h2
 ·rcases getElem?_push e1 with e1 | ⟨i1,rfl⟩
  ·rcases getElem?_push e2 with e2 | ⟨i2,rfl⟩
   ·exact hv2 x1 y1.vw (h.v i x1 y1 e1 e2) (fun a ha=>h.vt a (mem_vsA.2 ⟨x1,List.mem_of_getElem? e1,ha⟩))
   ·have:=(List.getElem?_eq_some_iff.1 e1).1;omega
  ·rcases getElem?_push e2 with e2 | ⟨i2,rfl⟩
   ·have:=(List.getElem?_eq_some_iff.1 e2).1;omega
   ·exact hv2 x1 y1.vw hx hxt
 ·rw [vsA_app] at ha
  rcases List.mem_append.1 ha with ha | ha
  ·obtain ⟨cs,f,e⟩:=h.vt a ha
   exact ⟨cs,f,(kp a (h.blk ha).2 (h.vt a ha)).trans e⟩
  ·obtain ⟨cs,f,e⟩:=hxt a ha
   exact ⟨cs,f,(kp a (hx.blk ha).2 (hxt a ha)).trans e⟩
 ·rw [vsA_app]
  exact List.nodup_append.2 ⟨h.vd,hxd,fun a ha b hb e=>hd a ha (by rw [e];exact hb)⟩
structure OW (w:World) (B:Nat) (v:Value) (S:List RS) (m:List (List WD)):Prop where
 n:S.length=m.length
 row:w.ownsRow B 97 1 v S.length (S.map RS.val)
 r:∀ (i:Nat) (r:RS) (l:List WD),S[i]? =some r→m[i]? =some l→ORow w B r l
 d:(mAs S).Nodup
theorem rows_blkT {w:World} {B n:Nat} {v:Value} {xs:List Value} (h:w.ownsRow B 97 1 v n xs) {k:Nat} (hk:v.ownBlock=some k):∃ cs,w.heap[k]? =some (.cells cs 97 (0,0)):=by
 rcases h.2 with ⟨e,-⟩ | ⟨g,cap,cur,e,-,c,-⟩
 ·rw [e] at hk;cases hk
 ·rw [e] at hk
  injection hk with hk
  have hk:g=k:=hk
  subst hk
  exact ⟨_,c⟩
theorem ORow.sepO {w:World} {B:Nat} {r:RS} {l:List WD} (h:ORow w B r l) {a:Addr} (ha:a∈rAs r.s r.vs 0):∃ cs t f,w.heap[a.block]? =some (.cells cs t f)∧t≠97:=by
 rcases mem_rAs.1 ha with ⟨i,hi',e⟩ | ⟨x,hx,hax⟩
 ·obtain ⟨g,cap,ev,-⟩:=World.ownsRow.form h.own (by omega)
  obtain ⟨cs,hc⟩:=h.blkT (k:=g) (by rw [ev];rfl)
  have e2:r.s=some ⟨g,0,none⟩:=by unfold RS.val at ev;injection ev with ev
  rw [e,e2]
  exact ⟨cs,_,_,hc,by decide⟩
 ·obtain ⟨cs,f,e⟩:=h.vt a (mem_vsA.2 ⟨x,hx,hax⟩)
  exact ⟨cs,_,f,e,by decide⟩
theorem OW.om {w:World} {B:Nat} {v:Value} {S:List RS} {m:List (List WD)} (h:OW w B v S m):OM w B v S m:=by
 refine ⟨h.n,h.row,fun i r l hr hl=>(h.r i r l hr hl).ro,h.d,fun a ha e=>?_⟩
 obtain ⟨r,hr,har⟩:=mem_mAs.1 ha
 obtain ⟨i,hi',er⟩:=List.getElem_of_mem hr
 have hl:i < m.length:=by have:=h.n;omega
 obtain ⟨cs,t,f,h1,h2⟩:=(h.r i r m[i] (by rw [List.getElem?_eq_getElem hi',er]) (List.getElem?_eq_getElem hl)).sepO har
 obtain ⟨cs',h3⟩:=rows_blkT h.row e
 rw [h1] at h3
 injection h3 with h3
 injection h3 with _ h3
 exact h2 h3
theorem OW.nil (w:World) (B:Nat):OW w B (.slice none 0 0) [] []:=⟨rfl,World.ownsRow_nil _ _ _ _,fun i r l h=>by simp at h,by simp [mAs]⟩
theorem OW.kept {w w':World} {B:Nat} {v:Value} {S:List RS} {m:List (List WD)} (h:OW w B v S m) (hb:∀ k,B≤k→k < w.heap.size→w'.heap[k]? =w.heap[k]?) (hs:w.heap.size≤w'.heap.size):OW w' B v S m:=
 ⟨h.n,ownKeep' h.row (fun k e=>hb k (World.ownsRow.lt h.row _ e).1 (World.ownsRow.lt h.row _ e).2),fun i r l hr hl=>by
  have q:=h.r i r l hr hl
  exact q.kept (fun k e=>hb k (World.ownsRow.lt q.own _ e).1 (World.ownsRow.lt q.own _ e).2) (fun a ha=>hb _ (q.blk ha).1 (q.blk ha).2) hs,h.d⟩
theorem OW.below {w w':World} {B:Nat} {v:Value} {S:List RS} {m:List (List WD)} (h:OW w B v S m) (hb:Below w.heap.size w w'):OW w' B v S m:=h.kept (fun k _ hk=>hb.block k hk) hb.size
end
section
set_option linter.unusedSimpArgs false
set_option linter.unusedVariables false
set_option maxRecDepth 100000
open Go.RowKit
def rightB (m:List (List WD)) (l:List Int) (cell:Int):Bool:=memB m&&viewB m l&&decide (0≤cell∧cell < 24)
theorem mx_comm (a b:Int):mx a b=mx b a:=by unfold mx;split<;>split<;>omega
structure Rt (m:List (List WD)) (l:List Int) (k:Nat) (r:List WD):Prop where
 hk:k < 24
 hr:m[k]? =some r
 n1:1≤r.length
 n2:r.length≤4000
 hl:l.length=24
 hm:m.length=24
 v0:0≤l.getD k 0
 v1:l.getD k 0 < (r.length:Int)
 hw:∀ (i:Nat) (x:WD),r[i]? =some x→x.vw.length=24
theorem right_of {m:List (List WD)} {l:List Int} {cell:Int} (h:rightB m l cell=true):∃ (k:Nat) (r:List WD),cell=k∧Rt m l k r:=by
 unfold rightB at h
 rw [Bool.and_eq_true,Bool.and_eq_true,decide_eq_true_eq] at h
 obtain ⟨⟨h1,h2⟩,h3⟩:=h
 unfold memB at h1
 rw [Bool.and_eq_true,decide_eq_true_eq,List.all_eq_true] at h1
 unfold viewB at h2
 rw [decide_eq_true_eq] at h2
 obtain ⟨k,rfl⟩:∃ k:Nat,cell=k:=⟨cell.toNat,by omega⟩
 have hk:k < 24:=by omega
 obtain ⟨r,hr⟩:∃ r,m[k]? =some r:=⟨_,List.getElem?_eq_getElem (by omega)⟩
 have h4:=h1.2 r (List.mem_of_getElem? hr)
 unfold rowB at h4
 rw [Bool.and_eq_true,decide_eq_true_eq,List.all_eq_true] at h4
 have h5:=h2.2 k (by omega)
 have e:m.getD k []=r:=by rw [List.getD_eq_getElem?_getD,hr];rfl
 rw [e] at h5
 refine ⟨k,r,rfl,hk,hr,h4.1.1,h4.1.2,by omega,h1.1,h5.1,h5.2,fun i x hx=>?_⟩
 have h6:=h4.2 x (List.mem_of_getElem? hx)
 unfold viewB at h6
 rw [decide_eq_true_eq] at h6
 omega
/- what a memory reads does not lie in block g -/
def MemAv (w:World) (s:Option Addr) (m:List (List WD)) (g:Nat):Prop:=
 ∀ gm om,s=some ⟨gm,om,none⟩→gm≠g∧∀ k gr or_ n1 c1,k < m.length→w.cell? ⟨gm,om+k,none⟩=some (.slice (some ⟨gr,or_,none⟩) n1 c1)→0 < n1→gr≠g∧∀ j g2 o2 n2 c2,j < n1→w.cell? ⟨gr,or_+j * 2+1,none⟩=some (.slice (some ⟨g2,o2,none⟩) n2 c2)→0 < n2→g2≠g
theorem IntsR.off {w w':World} {lo hi:Nat} {s:Option Addr} {l:List Int} (h:IntsR w lo hi s l) (hb:∀ g' o',s=some ⟨g',o',none⟩→0 < l.length→w'.heap[g']? =w.heap[g']?):IntsR w' lo hi s l:=by
 rcases h with h | ⟨g,o,hs,h1,h2,hc⟩
 ·exact .inl h
 ·refine .inr ⟨g,o,hs,h1,h2,fun i hi=>?_⟩
  exact (World.cell?_of_block (w:=w) (hb g o hs (by omega))).trans (hc i hi)
set_option maxHeartbeats 2000000 in
theorem load_any (s : Option Addr) (c lo hi base g cap : Nat) (m : List (List WD)) (l : List Int) (k : Nat) (r : List WD) (late : Int) (hold : Bool) (j : Nat) (x : WD) (w : World) (h : MemR w lo hi s m) (ho : OwnN w base (.slice (some ⟨g, 0, none⟩) l.length cap) l) (hB : hi ≤ w.heap.size) (hav : MemAv w s m g) (hr : Rt m l k r)
  (hlate:late≤9223372036854775807) (hj:mx (l.getD k 0) ((r.length:Int) - 1 - mx late 0)=j) (hx:r[j]? =some x):
  Calls Tryz.prog 168 #[.slice (some ⟨g,0,none⟩) l.length cap,.agg #[.slice s m.length c],.int .i64 k,.int .i64 late,.bool hold] w fun e w'=>e=.returned (.int .i64 x.v)∧OwnN w' base (.slice (some ⟨g,0,none⟩) l.length cap) (if hold=true then joinL (l.set k j) x.vw else l.set k j)∧Exc g (g+1) w w':=by
 have hg:=(World.ownsRow.lt ho g rfl).2
 obtain ⟨gm,om,s1,c1,es,a1,a2,a3,a4⟩:=h.row hr.hr
 subst es
 obtain ⟨gr,or_,s2,c2,es,b1,b2,b3,b4,b5⟩:=a4.at hx
 subst es
 obtain ⟨av1,av2⟩:=hav gm om rfl
 obtain ⟨av3,av4⟩:=av2 k _ _ _ _ (by have:=hr.hk;have:=hr.hm;omega) a3 (by have:=(List.getElem?_eq_some_iff.1 hx).1;omega)
 have av5:∀ g' o',s2=some ⟨g',o',none⟩→0 < x.vw.length→g'≠g:=fun g' o' e hp=>by subst e;exact av4 j g' o' _ _ (List.getElem?_eq_some_iff.1 hx).1 b4 hp
 have HAV:Hid (∀ g' o',s2=some ⟨g',o',none⟩→0 < x.vw.length→g'≠g):=av5
 clear av2 av4 av5
 have hk:=hr.hk
 have hll:=hr.hl
 have hml:=hr.hm
 have hn1:=hr.n1
 have hn2:=hr.n2
 have hjr:=(List.getElem?_eq_some_iff.1 hx).1
 have e1:w.cell? ⟨g,k,none⟩=some (.int .i64 (l.getD k 0)):=ho.cell (by omega)
 have hfz:∀ i,w.frozen? ⟨g,i,none⟩=false:=fun i=>World.ownsRow.frozenAt ho i
 have hv0:=hr.v0
 have hv1:=hr.v1
 have HO:=(show Hid (OwnN w base (.slice (some ⟨g,0,none⟩) l.length cap) l) from ho)
 have HI:Hid (IntsR w lo hi s2 x.vw):=b5
 have hxl:=hr.hw j x hx
 have HXL:Hid (x.vw.length=24):=hxl
 generalize l.getD k 0=y at e1 hv0 hv1 hj
 obtain ⟨q,hq⟩:∃ q:Int,mx late 0=q:=⟨_,rfl⟩
 have hq0:0≤q∧q≤9223372036854775807:=by subst hq;unfold mx;split<;>omega
 rw [hq] at hj
 have hq1:(if 0 > late then 0 else late)=q:=by rw [← hq];unfold mx;rfl
 have hw1:IntKind.i64.wrap ((r.length:Int) - 1 - q)=(r.length:Int) - 1 - q:=Go.IntWalk.i64_in _ (by omega)
 have hj1:(if (r.length:Int) - 1 - q > y then (r.length:Int) - 1 - q else y)=(j:Int):=hj
 have HJ:=(show Hid (mx y ((r.length:Int) - 1 - q)=j) from hj)
 have B0:(0:Int)≤(k:Int):=by omega
 have B1:(k:Int) < (l.length:Int):=by omega
 have B2:(k:Int) < (m.length:Int):=by omega
 have B3:(0:Int)≤(j:Int):=by omega
 have B4:(j:Int) < (r.length:Int):=by omega
 have G1:gm < w.heap.size:=by omega
 have G2:gr < w.heap.size:=by omega
 have HLL:Hid (l.length=24):=hll
 have hl2:l.length≤1048577:=by omega
 clear h a4 b5 hx hj hr ho hq hll hml hxl
 go_enter Tryz.func168,Tryz.ntmps168
 go_wp2_with fail
 obtain ⟨W,hW⟩:∃ W,(w.setCell ⟨g,k,none⟩ (.int .i64 j)).alloc (.cells #[.slice (some ⟨gm,om,none⟩) m.length c] 35)=W:=⟨_,rfl⟩
 have k0:W.cell? ⟨w.heap.size,0,none⟩=some (.slice (some ⟨gm,om,none⟩) m.length c):=by subst hW;simp [go_sem]
 have kW:∀ b,b < w.heap.size→b≠g→W.heap[b]? =w.heap[b]? :=fun b h1 h2=>by subst hW;rw [Below.heap_alloc _ _ _ (by simpa using h1),Below.heap_setCell _ _ _ b h2]
 have k2:W.cell? ⟨gm,om+k,none⟩=some (.slice (some ⟨gr,or_,none⟩) r.length c1):=(World.cell?_of_block (w:=w) (kW gm (by omega) av1)).trans a3
 have k3:W.cell? ⟨gr,or_+j * 2,none⟩=some (.int .i64 x.v):=(World.cell?_of_block (w:=w) (kW gr (by omega) av3)).trans b3
 have k4:W.cell? ⟨gr,or_+j * 2+1,none⟩=some (.slice s2 x.vw.length c2):=(World.cell?_of_block (w:=w) (kW gr (by omega) av3)).trans b4
 have OW:Hid (OwnN W base (.slice (some ⟨g,0,none⟩) l.length cap) (l.set k j)):=by
  subst hW
  have p5:=(World.ownsRow.stored HO.out k (.int .i64 j)).1
  show OwnN _ _ _ _
  refine OwnN.alloc ?_ _
  unfold OwnN
  rw [List.map_set,List.length_set]
  exact p5
 have k1:W.cell? ⟨g,k,none⟩=some (.int .i64 j):=by
  have h1:OwnN W base (.slice (some ⟨g,0,none⟩) (l.set k j).length cap) (l.set k (j:Int)):=by rw [List.length_set];exact OW.out
  rw [h1.cell (i:=k) (by rw [List.length_set];omega)]
  simp [List.getD_eq_getElem?_getD,show k < l.length by omega]
 have EW:Hid (Exc g (g+1) w W):=by
  subst hW
  exact ⟨rfl,rfl,rfl,by simp,fun b h1 h2=>by rw [Below.heap_alloc _ _ _ (by simpa using h1),Below.heap_setCell _ _ _ b (by show b≠g;omega)]⟩
 have zW:w.heap.size < W.heap.size:=by subst hW;simp
 have IW:Hid (IntsR W lo hi s2 x.vw):=HI.out.off (fun g' o' e hp=>kW g' (by rcases HI.out with q | ⟨g2,o2,e2,q1,q2,-⟩;(rw [q] at hp;simp at hp);(rw [e] at e2;injection e2 with e2;injection e2 with e2;omega)) (HAV.out g' o' e hp))
 rw [hW]
 clear hW kW
 have z1:g < W.heap.size:=by omega
 have z2:gm < W.heap.size:=by omega
 have z3:gr < W.heap.size:=by omega
 go_region
 obtain ⟨X,hX⟩:∃ X,(W.alloc (.cells #[.int .i64 x.v,.slice s2 x.vw.length c2] 99)).drew=X:=⟨_,rfl⟩
 have x0:X.cell? ⟨W.heap.size,0,none⟩=some (.int .i64 x.v):=by subst hX;simp [go_sem]
 have x1:X.cell? ⟨W.heap.size,1,none⟩=some (.slice s2 x.vw.length c2):=by subst hX;simp [go_sem]
 have kX:Below W.heap.size W X:=by subst hX;exact Below.drew ((Below.refl _ _).alloc (Nat.le_refl _) _)
 have zX:W.heap.size < X.heap.size:=by subst hX;show W.heap.size < (W.alloc _).heap.size;simp
 rw [hX]
 clear hX k0 k1 k2 k3 k4 a3 b3 b4 e1 hfz
 have OX:Hid (OwnN X base (.slice (some ⟨g,0,none⟩) l.length cap) (l.set k j)):=ownKeep' OW.out (fun b hb=>by have hb2:some g=some b:=hb;injection hb2 with hb2;exact kX.block b (by omega))
 have IX:Hid (IntsR X lo hi s2 x.vw):=IW.out.keep (Keep.of_below kX (by omega))
 have EX:Hid (Exc g (g+1) w X):=by
  obtain ⟨p1,p2,p3,p4,p5⟩:=EW.out
  exact ⟨kX.os.trans p1,kX.tape.trans p2,kX.output.trans p3,by omega,fun b h1 h2=>(kX.block b (by omega)).trans (p5 b h1 h2)⟩
 clear kX
 cases hold
 ·go_wp2
  go_ret
  exact ⟨rfl,OX.out,EX.out⟩
 ·have le:=learn_any base g cap (l.set k j) s2 c2 lo hi x.vw X (by rw [List.length_set];exact OX.out) IX.out (by omega) HAV.out (by rw [List.length_set];omega) (by have:=HXL.out;omega)
  rw [List.length_set] at le
  have HT:Hid (learnL (l.set k (j:Int)) x.vw=joinL (l.set k (j:Int)) x.vw):=learn_join _ _ (by rw [List.length_set,HLL.out,HXL.out];exact Nat.le_refl _)
  go_wp2_with fail
  refine le.mono ?_
  rintro e w3 ⟨rfl,ho3,hx3,hz3⟩
  have y0:w3.cell? ⟨W.heap.size,0,none⟩=some (.int .i64 x.v):=(World.cell?_of_block (w:=X) (hx3.blk W.heap.size zX (.inr (by omega)))).trans x0
  have y1:w3.cell? ⟨W.heap.size,1,none⟩=some (.slice s2 x.vw.length c2):=(World.cell?_of_block (w:=X) (hx3.blk W.heap.size zX (.inr (by omega)))).trans x1
  have HO3:=(show Hid (OwnN w3 base (.slice (some ⟨g,0,none⟩) l.length cap) (learnL (l.set k (j:Int)) x.vw)) from ho3)
  have HX3:Hid (Exc g (g+1) w w3):=by
   obtain ⟨p1,p2,p3,p4,p5⟩:=EX.out
   exact ⟨hx3.os.trans p1,hx3.tape.trans p2,hx3.out.trans p3,by have:=hx3.size;omega,fun b h1 h2=>(hx3.blk b (by omega) h2).trans (p5 b h1 h2)⟩
  have zz:W.heap.size < w3.heap.size:=by omega
  clear ho3 hx3 hz3 le
  go_wp2
  go_ret
  refine ⟨rfl,?_,HX3.out⟩
  have:=HO3.out
  rw [HT.out] at this
  exact this
theorem l1Max_is (a b z:Int) (w:World) (h:mx a b=z):Calls Tryz.prog 130 #[.int .i64 a,.int .i64 b] w fun e w'=>e=.returned (.int .i64 z)∧w'=w:=by
 rw [← h]
 exact l1Max_any a b w
set_option maxHeartbeats 2000000 in
theorem l6Load_any (s s' : Option Addr) (c c' lo hi lo' hi' : Nat) (m : List (List WD)) (l : List Int) (k : Nat) (r : List WD) (late : Int) (hold : Bool) (j : Nat) (x : WD) (w : World) (h : MemR w lo hi s m) (h' : IntsR w lo' hi' s' l) (hB : hi ≤ w.heap.size) (hB' : hi' ≤ w.heap.size) (hr : Rt m l k r)
  (hlate:late≤9223372036854775807) (hj:mx (l.getD k 0) ((r.length:Int) - 1 - mx late 0)=j) (hx:r[j]? =some x):
  Calls Tryz.prog 116 #[.agg #[.slice s m.length c],.slice s' l.length c',.int .i64 k,.int .i64 late,.bool hold] w fun e w'=>∃ v,e=.returned (.tuple #[.int .i64 x.v,v])∧OwnN w' w.heap.size v (if hold=true then joinL (l.set k j) x.vw else l.set k j)∧Below w.heap.size w w':=by
 obtain ⟨gm,om,s1,c1,es,a1,a2,a3,a4⟩:=h.row hr.hr
 subst es
 obtain ⟨gr,or_,s2,c2,es,b1,b2,b3,b4,b5⟩:=a4.at hx
 subst es
 have hk:=hr.hk
 have hll:=hr.hl
 have hml:=hr.hm
 have hn1:=hr.n1
 have hn2:=hr.n2
 have hjr:=(List.getElem?_eq_some_iff.1 hx).1
 obtain ⟨gv,ov,es,f1,f2,f3⟩:=h'.pos (by omega)
 subst es
 have e1:=f3 k (by omega)
 have hv0:=hr.v0
 have hv1:=hr.v1
 have H:Hid (MemR w lo hi (some ⟨gm,om,none⟩) m):=h
 have H':Hid (IntsR w lo' hi' (some ⟨gv,ov,none⟩) l):=h'
 have HI:Hid (IntsR w lo hi s2 x.vw):=b5
 have hxl:=hr.hw j x hx
 have HXL:Hid (x.vw.length=24):=hxl
 have HLL:Hid (l.length=24):=hll
 have hl2:l.length≤1048577:=by omega
 generalize l.getD k 0=y at e1 hv0 hv1 hj
 obtain ⟨q,hq⟩:∃ q:Int,mx late 0=q:=⟨_,rfl⟩
 have hq0:0≤q∧q≤9223372036854775807:=by subst hq;unfold mx;split<;>omega
 rw [hq] at hj
 have HQ:Hid (mx late 0=q):=hq
 have HJ:Hid (mx ((r.length:Int) - 1 - q) y=j):=by show mx _ _=_;rw [mx_comm];exact hj
 have hw1:IntKind.i64.wrap ((r.length:Int) - 1 - q)=(r.length:Int) - 1 - q:=Go.IntWalk.i64_in _ (by omega)
 have hw0:IntKind.i64.wrap ((r.length:Int) - 1)=(r.length:Int) - 1:=Go.IntWalk.i64_in _ (by omega)
 have HJ2:Hid (mx (IntKind.i64.wrap (IntKind.i64.wrap ((r.length:Int) - 1) - q)) y=j):=by show mx _ _=_;rw [hw0,hw1];exact HJ.out
 have HJ3:Hid (mx (IntKind.i64.wrap ((r.length:Int) - 1 - q)) y=j):=by show mx _ _=_;rw [hw1];exact HJ.out
 clear hw0 hw1
 have B0:(0:Int)≤(k:Int):=by omega
 have B1:(k:Int) < (l.length:Int):=by omega
 have B2:(k:Int) < (m.length:Int):=by omega
 have B3:(0:Int)≤(j:Int):=by omega
 have B4:(j:Int) < (r.length:Int):=by omega
 have G1:gm < w.heap.size:=by omega
 have G2:gr < w.heap.size:=by omega
 have G3:gv < w.heap.size:=by omega
 clear h h' a4 b5 hx hj hr hq hll hml hxl f3
 go_enter Tryz.func116,Tryz.ntmps116
 go_wp2_with fail
 obtain ⟨W,hW,bx,kb,zb⟩:=Bo1.new w (.slice (some ⟨gm,om,none⟩) m.length c) 35
 rw [hW]
 clear hW
 have c0:=bx.c0
 have HKB:Hid (Below w.heap.size w W):=kb
 have z0:w.heap.size < W.heap.size:=by omega
 have k1:=(kb.cell (p:=⟨gm,om+k,none⟩) G1).trans a3
 have k2:=(kb.cell (p:=⟨gr,or_+j * 2,none⟩) G2).trans b3
 have k3:=(kb.cell (p:=⟨gr,or_+j * 2+1,none⟩) G2).trans b4
 have k4:=(kb.cell (p:=⟨gv,ov+k,none⟩) G3).trans e1
 have IW:Hid (IntsR W lo hi s2 x.vw):=HI.out.keep (Keep.of_below kb hB)
 have LW:Hid (IntsR W lo' hi' (some ⟨gv,ov,none⟩) l):=H'.out.keep (Keep.of_below kb hB')
 have y1:gm < W.heap.size:=by omega
 have y2:gr < W.heap.size:=by omega
 have y3:gv < W.heap.size:=by omega
 have y4:hi≤W.heap.size:=by omega
 clear bx kb zb a3 b3 b4 e1
 go_quiet (first | (go_at_call 130;exact Calls.quiet_of_same (l1Max_is _ _ _ _ HQ.out)) | (go_at_call 130;exact Calls.quiet_of_same (l1Max_is _ _ _ _ HJ.out)) | (go_at_call 130;exact Calls.quiet_of_same (l1Max_is _ _ _ _ HJ2.out)) | (go_at_call 130;exact Calls.quiet_of_same (l1Max_is _ _ _ _ HJ3.out)))
 obtain ⟨Y,hY⟩:∃ Y,W.drewN nq=Y:=⟨_,rfl⟩
 have kY:Below W.heap.size W Y:=by rw [← hY];exact below_drewN _ _
 have zY:=kY.size
 rw [hY]
 clear hY
 have HKY:Hid (Below w.heap.size w Y):=HKB.out.trans (kY.mono (by omega))
 have m1:=(kY.cell (p:=⟨gm,om+k,none⟩) y1).trans k1
 have m2:=(kY.cell (p:=⟨gr,or_+j * 2,none⟩) y2).trans k2
 have m3:=(kY.cell (p:=⟨gr,or_+j * 2+1,none⟩) y2).trans k3
 have IY:Hid (IntsR Y lo hi s2 x.vw):=IW.out.keep (Keep.of_below kY (by omega))
 have LY:Hid (IntsR (Y.alloc (.cells #[] 3)) lo' hi' (some ⟨gv,ov,none⟩) l):=LW.out.keep (Keep.of_below (kY.trans (((Below.refl _ _).alloc (Nat.le_refl _) _).mono zY)) (by omega))
 have w2:gr < Y.heap.size:=by omega
 have w4:hi≤Y.heap.size:=by omega
 clear kY k1 k2 k3 k4 c0 m1
 cases hold
 ·go_wp2_with (at_builtin;refine app_copyI rfl _ _ rfl rfl _ Y.heap.size (some ⟨Y.heap.size,0,none⟩) 0 rfl (ownN_empty (Nat.le_refl _)) (some ⟨gv,ov,none⟩) c' l rfl LY.out (by omega) (by simp) ?_;intro s5 c5 w5 ho5 hc5;obtain ⟨g5,cap5,e5,-⟩:=World.ownsRow.form ho5 (by omega);injection e5 with e51 e52 e53;subst e51;have q0:w5.cell? ⟨g5,k,none⟩=some (.int .i64 (l.getD k 0)):=ho5.cell (by omega);have q1:w5.frozen? ⟨g5,k,none⟩=false:=World.ownsRow.frozenAt ho5 k;have q9:=(World.ownsRow.lt ho5 g5 rfl);have hb5:Below Y.heap.size Y w5:=((Below.refl _ _).alloc (Nat.le_refl _) _).trans hc5.low;have q2:=(hb5.cell (p:=⟨gr,or_+j * 2,none⟩) w2).trans m2;have q3:=(hb5.cell (p:=⟨gr,or_+j * 2+1,none⟩) w2).trans m3;have q4:¬ g5=gr:=(by omega);have q5:¬ gr=g5:=(by omega);have HO5:=(show Hid (OwnN w5 Y.heap.size (.slice (some ⟨g5,0,none⟩) l.length c5) l) from ho5);have HB5:Hid (Below Y.heap.size Y w5):=hb5;clear ho5 hc5 hb5 e53)
  have st:OwnN (w5.setCell ⟨g5,k,none⟩ (.int .i64 j)) Y.heap.size (.slice (some ⟨g5,0,none⟩) l.length c5) (l.set k j):=by
   have p5:=(World.ownsRow.stored HO5.out k (.int .i64 j)).1
   unfold OwnN
   rw [List.map_set,List.length_set]
   exact p5
  have kb:Below Y.heap.size Y (w5.setCell ⟨g5,k,none⟩ (.int .i64 j)):=HB5.out.setCell (p:=⟨g5,k,none⟩) q9.1 _
  go_ret2
  exact ⟨_,rfl,ownLow' st (by have:=HKY.out.size;omega),HKY.out.trans (kb.mono HKY.out.size)⟩
 ·go_wp2_with (first | (at_builtin;refine app_copyI rfl _ _ rfl rfl _ Y.heap.size (some ⟨Y.heap.size,0,none⟩) 0 rfl (ownN_empty (Nat.le_refl _)) (some ⟨gv,ov,none⟩) c' l rfl LY.out (by omega) (by simp) ?_;intro s5 c5 w5 ho5 hc5;obtain ⟨g5,cap5,e5,-⟩:=World.ownsRow.form ho5 (by omega);injection e5 with e51 e52 e53;subst e51;have q0:w5.cell? ⟨g5,k,none⟩=some (.int .i64 (l.getD k 0)):=ho5.cell (by omega);have q1:w5.frozen? ⟨g5,k,none⟩=false:=World.ownsRow.frozenAt ho5 k;have q9:=(World.ownsRow.lt ho5 g5 rfl);have hb5:Below Y.heap.size Y w5:=((Below.refl _ _).alloc (Nat.le_refl _) _).trans hc5.low;have q2:=(hb5.cell (p:=⟨gr,or_+j * 2,none⟩) w2).trans m2;have q3:=(hb5.cell (p:=⟨gr,or_+j * 2+1,none⟩) w2).trans m3;have q4:¬ g5=gr:=(by omega);have q5:¬ gr=g5:=(by omega);have HO5:=(show Hid (OwnN w5 Y.heap.size (.slice (some ⟨g5,0,none⟩) l.length c5) l) from ho5);have HB5:Hid (Below Y.heap.size Y w5):=hb5;clear ho5 hc5 hb5 e53) | fail)
  have st:OwnN (w5.setCell ⟨g5,k,none⟩ (.int .i64 j)) Y.heap.size (.slice (some ⟨g5,0,none⟩) l.length c5) (l.set k j):=by
   have p5:=(World.ownsRow.stored HO5.out k (.int .i64 j)).1
   unfold OwnN
   rw [List.map_set,List.length_set]
   exact p5
  have kb:Below Y.heap.size Y (w5.setCell ⟨g5,k,none⟩ (.int .i64 j)):=HB5.out.setCell (p:=⟨g5,k,none⟩) q9.1 _
  obtain ⟨X,hX⟩:∃ X,w5.setCell ⟨g5,k,none⟩ (.int .i64 j)=X:=⟨_,rfl⟩
  rw [hX] at st kb
  rw [hX]
  have n2:=(kb.cell (p:=⟨gr,or_+j * 2,none⟩) w2).trans m2
  have zX:=kb.size
  have OX:Hid (IntsR X Y.heap.size X.heap.size (some ⟨g5,0,none⟩) (l.set k (j:Int))):=ownN_intsR (c:=c5) (by rw [List.length_set];exact st)
  have IX:Hid (IntsR X lo hi s2 x.vw):=IY.out.keep (Keep.of_below kb (by omega))
  have HKX:Hid (Below Y.heap.size Y X):=kb
  have zg:gr < X.heap.size:=by omega
  clear hX st kb q0 q1 q2 q3
  have jn:=specJoin_any (some ⟨g5,0,none⟩) s2 c5 c2 _ _ lo hi (l.set k (j:Int)) x.vw X OX.out IX.out (by rw [List.length_set];omega) (by have:=HXL.out;omega) (Nat.le_refl _) (by omega)
  rw [List.length_set] at jn
  refine jn.mono ?_
  rintro e w6 ⟨v6,rfl,ho6,hb6⟩
  have n3:=(hb6.cell (p:=⟨gr,or_+j * 2,none⟩) zg).trans n2
  have HO6:=(show Hid _ from ho6)
  have HB6:Hid (Below X.heap.size X w6):=hb6
  have z6:=hb6.size
  have zg6:gr < w6.heap.size:=by omega
  clear ho6 hb6 jn n2
  go_wp2
  go_ret2
  exact ⟨_,rfl,ownLow' HO6.out (by have:=HKY.out.size;omega),HKY.out.trans ((HKX.out.trans (HB6.out.mono (by omega))).mono HKY.out.size)⟩
end
end Go.Proofs.YtlbeploopclegaaGreat
