/- Machines that run: all their rows owned whole; append of notes. Conditions: fewer than 2^30 of them. A step keeps a machine right: views and memories. No condition. Cores copied by the program and by the specification. Conditions: their rows of at most 1048576. -/
import Derived.Test.YtlbeploopclegaaGreatPG00
import Derived.Test.YtlbeploopclegaaGreatPG02
import Derived.Test.YtlbeploopclegaaGreatPG08
import Derived.Test.YtlbeploopclegaaGreatPG01
import Derived.Test.YtlbeploopclegaaGreatPG03
import Derived.Test.YtlbeploopclegaaGreatPG06
import Derived.Test.YtlbeploopclegaaGreatPG11
import Derived.Test.YtlbeploopclegaaGreatPG10
import Derived.Test.YtlbeploopclegaaGreatPG05
import Derived.Test.YtlbeploopclegaaGreatPG07
import Derived.Test.YtlbeploopclegaaGreatPMemStore
import Derived.Test.YtlbeploopclegaaGreatPMemOk
import Derived.Test.YtlbeploopclegaaGreatPKOkB
namespace Go.Proofs.YtlbeploopclegaaGreat
section
set_option linter.unusedSimpArgs false
set_option linter.unusedVariables false
set_option maxRecDepth 100000
open Go.RowKit
theorem infoD:∃ i,Tryz.prog.info? 105=some i∧i.zero=some (.agg #[.int .i64 0,.int .i64 0])∧i.size=2∧i.bytes=16:=⟨_,rfl,rfl,rfl,rfl⟩
theorem run_append_zeroD (w : World) (base : Nat) (v : Value) (l : List ND) (hown : OwnD w base v l) (s : Option Addr) (c : Nat) :
  (Builtin.append_ #[36,36] 36 #[v,.slice s 0 c]).run Tryz.prog w=.ok v w:=by
 obtain ⟨i0,hi,hz0,hz1,hz2⟩:=infoD
 rcases hown.2 with ⟨rfl,-⟩ | ⟨g,cap,cur,rfl,_,_,hnc,_⟩
 ·cases s<;>simp [Builtin.append_,run_underlying Tryz.underlying36,sizeOf,typeInfo,hi,Builtin.lenOf,Builtin.firstCells,loadCells,loadCellsFrom,storeCells]
 ·cases s<;>simp [Builtin.append_,run_underlying Tryz.underlying36,sizeOf,typeInfo,hi,Builtin.lenOf,Builtin.firstCells,hnc,storeCells,loadCells,loadCellsFrom,storeCells]
theorem news_notes {w:World} {g o:Nat} {l:List ND} (hc:∀ (i:Nat) (n:ND),l[i]? =some n→NtR w g (o+i * 2) n):∀ j u,(flatN l)[j]? =some u→w.cell? (Addr.add ⟨g,o,none⟩ j)=some u:=by
 intro j u hu
 have hj:j < l.length * 2:=by have:=(List.getElem?_eq_some_iff.1 hu).1;rw [flatN_len] at this;exact this
 have ea:(Addr.add ⟨g,o,none⟩ j)=⟨g,o+j,none⟩:=by
  by_cases h:j=0
  ·subst h;rfl
  ·simp [Addr.add,h]
 have hi:j / 2 < l.length:=by omega
 have h1:=hc (j / 2) _ (List.getElem?_eq_getElem hi)
 obtain ⟨e0,e1⟩:=flatN_at l (j / 2) _ (List.getElem?_eq_getElem hi)
 rw [ea]
 rcases (show j=j / 2 * 2∨j=j / 2 * 2+1 by omega) with e | e
 ·rw [e,e0] at hu
  rw [e,← hu]
  exact h1.1
 ·rw [e,e1] at hu
  rw [e,← hu]
  exact h1.2
theorem flatN_one:∀ (l:List ND),∀ u∈flatN l,u.oneCell'=true
 | [],u,h=>by simp [flatN] at h
 | x::r,u,h=>by
  simp only [flatN,List.mem_append,List.mem_cons,List.not_mem_nil,or_false] at h
  rcases h with (rfl | rfl) | h
  ·rfl
  ·rfl
  ·exact flatN_one r u h
theorem wp_copyD {o : Oper} {a : Act} {w : World} {K : Act → World → Prop} {Q : Exit → Act → World → Prop} (s x : Operand) (hty : o.type = 36) (ho : o.op = .call { callee := .builtin .append, args := #[s, x], argTypes := #[36, 36] })
  (base:Nat) (sv:Option Addr) (cv:Nat) (hs:a.eval s=.slice sv 0 cv) (hown:OwnD w base (.slice sv 0 cv) []) (sx:Option Addr) (c:Nat) (l:List ND) {lo hi:Nat} (hx:a.eval x=.slice sx l.length c) (hr:NtsR w lo hi sx l) (hn:l.length≤1073741824) (hbase:base≤w.heap.size)
  (h:∀ s' c' w',OwnD w' base (.slice s' l.length c') l→Copied w w' sv cv base l.length s' c'→K (a.put o.dst (.slice s' l.length c')) w'):Oper.wp Tryz.prog o a w K Q:=by
 rcases Nat.eq_zero_or_pos l.length with h0 | hl
 ·have e:=List.length_eq_zero_iff.1 h0
  subst e
  have hrun:=run_append_zeroD w base _ _ hown sx c
  unfold Oper.wp
  simp at hx
  simp [execOp,ho,resolve,invoke,builtin,hs,hx,hty,hrun,Result.andThen]
  exact h sv cv w hown ⟨fun _ _ _=>rfl,Below.refl _ _,fun k hk=>.inr hk⟩
 ·rcases hr with rfl | ⟨g,off,rfl,h1,h2,hc⟩
  ·simp at hl
  ·obtain ⟨i0,hi0,hz0,hz1,hz2⟩:=infoD
   refine wp_append_lies w s x 36 ho base 105 i0 _ 2 16 Tryz.underlying36 hi0 hz0 hz1 hz2 rfl (by decide) _ 0 _ hs hown ⟨g,off,none⟩ l.length c (flatN l) hx (flatN_len l) (news_notes hc) (flatN_one l) hl (by unfold maxLen;omega) (by omega) hbase _ rfl ?_
   intro g' cap w' q1 q2 q3 q4
   have hb:Below base w w':=Below.grown (Below.refl _ _) q2 hbase (fun j hj=>(World.ownsRow.lt hown _ hj).1)
   rw [Nat.zero_add]
   rw [Nat.zero_add] at q1
   refine h _ _ w' q1 ⟨fun k hk hne=>q2.block k hk (fun e=>hne e.symm),hb,fun k hk=>?_⟩
   injection hk with hk
   rcases q3 with q3 | q3
   ·exact .inr (by rw [q3];exact congrArg some hk)
   ·exact .inl (by have:g'=k:=hk;omega)
theorem step_copyD {ops : Array Oper} {o : Oper} {a : Act} {K : Act → World → Prop} {Q : Exit → Act → World → Prop} {E : Prop} (hgd : o.guard = none) (s x : Operand) (hty : o.type = 36) (ho : o.op = .call { callee := .builtin .append, args := #[s, x], argTypes := #[36, 36] }) (w : World)
  (base:Nat) (sv:Option Addr) (cv:Nat) (hs:a.eval s=.slice sv 0 cv) (hown:OwnD w base (.slice sv 0 cv) []) (sx:Option Addr) (c:Nat) (l:List ND) {lo hi:Nat} (hx:a.eval x=.slice sx l.length c) (hr:NtsR w lo hi sx l) (hn:l.length≤1073741824) (hbase:base≤w.heap.size)
  (h:∀ s' c' w',OwnD w' base (.slice s' l.length c') l→Copied w w' sv cv base l.length s' c'→K (a.put o.dst (.slice s' l.length c')) w'):if Region.wanted o (yielded ops a.tmps)=true then Oper.wp Tryz.prog o a w K Q else E:=by
 have hw:Region.wanted o (yielded ops a.tmps)=true:=by simp [Region.wanted,hgd]
 rw [if_pos hw]
 exact wp_copyD s x hty ho base sv cv hs hown sx c l hx hr hn hbase h
theorem step_call {ops : Array Oper} {o : Oper} {a : Act} {w : World} {K : Act → World → Prop} {Q : Exit → Act → World → Prop} {F : Prop} (f : FuncId) (args : Array Value) (hgd : o.guard = none) (xs : Array Operand) (ats : Array TypeId) (ho : o.op = .call { callee := .value (.func f), args := xs, argTypes := ats }) (hx : xs.map a.eval = args)
  (hent:∀ (args:Array Value) (w:World),(callFunc f args).run Tryz.prog w=.ok (.enter f args) w) (h:Calls Tryz.prog f args w fun e w'=>∃ v,e=.returned v∧K (a.put o.dst v) w'):
  if Region.wanted o (yielded ops a.tmps)=true then Oper.wp Tryz.prog o a w K Q else F:=by
 have hw:Region.wanted o (yielded ops a.tmps)=true:=by simp [Region.wanted,hgd]
 rw [if_pos hw]
 obtain ⟨dst,op,ty,pos,after,guard⟩:=o
 simp only at ho
 subst ho
 unfold Oper.wp
 rw [execOp_call_go]
 have e:(#[]++xs.map a.eval++#[])=args:=by rw [hx];simp
 rw [e,hent,Oper.upon_enter]
 refine h.mono ?_
 rintro e w' ⟨v,rfl,hk⟩
 exact hk
theorem OwnC.low {w:World} {b b':Nat} {v:Value} {L:List CV} (h:OwnC w b v L) (hb:b'≤b):OwnC w b' v L:=⟨ownLow' h.row hb,fun i x hx=>ownLow' (h.inn i x hx) hb,h.sep⟩
theorem OwnK.low {w:World} {b b':Nat} {v:Value} {L:List KV} (h:OwnK w b v L) (hb:b'≤b):OwnK w b' v L:=⟨ownLow' h.row hb,fun i x hx=>⟨ownLow' (h.inn i x hx).1 hb,ownLow' (h.inn i x hx).2 hb⟩,h.two,h.sep⟩
/- a machine that runs: all its rows owned whole -/
structure MQ0 (w:World) (B:Nat) (vc vk vm vt:Value) (LC:List CV) (LK:List KV) (S:List RS) (d:MD):Prop where
 c:OwnC w B vc LC
 ec:LC.map CV.l=d.codes
 k:OwnK w B vk LK
 ek:LK.map KV.d=d.cores
 m:OW w B vm S d.mem
 t:OwnD w B vt d.tr
 sk:∀ (i:Nat) (x:KV) (q:Nat),LK[i]? =some x→(x.r.ownBlock=some q∨x.v.ownBlock=some q)→∀ a∈mAs S,a.block≠q
theorem MQ0.low {w:World} {B B':Nat} {vc vk vm vt:Value} {LC:List CV} {LK:List KV} {S:List RS} {d:MD} (h:MQ0 w B vc vk vm vt LC LK S d) (hb:B'≤B):MQ0 w B' vc vk vm vt LC LK S d:=⟨h.c.low hb,h.ec,h.k.low hb,h.ek,h.m.low hb,ownLow' h.t hb,h.sk⟩
theorem MQ0.keep {w w':World} {B:Nat} {vc vk vm vt:Value} {LC:List CV} {LK:List KV} {S:List RS} {d:MD} (h:MQ0 w B vc vk vm vt LC LK S d) (hb:∀ k,B≤k→k < w.heap.size→w'.heap[k]? =w.heap[k]?) (hs:w.heap.size≤w'.heap.size):MQ0 w' B vc vk vm vt LC LK S d:=
 ⟨h.c.keep hb,h.ec,h.k.keep hb,h.ek,h.m.kept hb hs,ownKeep' h.t (fun k hk=>hb k (World.ownsRow.lt h.t _ hk).1 (World.ownsRow.lt h.t _ hk).2),h.sk⟩
/- all blocks that a machine has are P -/
structure HitQ (P:Nat→Prop) (vc vk vm vt:Value) (LC:List CV) (LK:List KV) (S:List RS):Prop where
 c:∀ q,vc.ownBlock=some q→P q
 ci:∀ (i:Nat) (x:CV) (q:Nat),LC[i]? =some x→x.v.ownBlock=some q→P q
 k:∀ q,vk.ownBlock=some q→P q
 ki:∀ (i:Nat) (x:KV) (q:Nat),LK[i]? =some x→(x.r.ownBlock=some q∨x.v.ownBlock=some q)→P q
 m:∀ q,vm.ownBlock=some q→P q
 mi:∀ a∈mAs S,P a.block
 t:∀ q,vt.ownBlock=some q→P q
structure MQ (w:World) (B:Nat) (Hq:Nat→Prop) (vc vk vm vt:Value) (LC:List CV) (LK:List KV) (S:List RS) (d:MD):Prop extends MQ0 w B vc vk vm vt LC LK S d where
 hh:HitQ Hq vc vk vm vt LC LK S
 hn:∀ q,w.heap.size≤q→Hq q
theorem MQ.lt {w:World} {B b:Nat} {Hq:Nat→Prop} {vc vk vm vt:Value} {LC:List CV} {LK:List KV} {S:List RS} {d:MD} (h:MQ w B Hq vc vk vm vt LC LK S d) (hb:¬ Hq b):b < w.heap.size:=Classical.byContradiction fun e=>hb (h.hn b (by omega))
theorem MQ.keep {w w':World} {B:Nat} {Hq:Nat→Prop} {vc vk vm vt:Value} {LC:List CV} {LK:List KV} {S:List RS} {d:MD} (h:MQ w B Hq vc vk vm vt LC LK S d) (hb:∀ k,B≤k→k < w.heap.size→w'.heap[k]? =w.heap[k]?) (hs:w.heap.size≤w'.heap.size):MQ w' B Hq vc vk vm vt LC LK S d:=
 ⟨h.toMQ0.keep hb hs,h.hh,fun q hq=>h.hn q (Nat.le_trans hs hq)⟩
theorem X4.zero (w:World) (v0 v1 v2 v3:Value):X4 (w.alloc (.cells #[v0,v1,v2,v3] 38)) w.heap.size v0 v1 v2 v3∧∃ cs f,(w.alloc (.cells #[v0,v1,v2,v3] 38)).heap[w.heap.size]? =some (.cells cs 38 f):=by
 obtain ⟨W,hW,x,-,-⟩:=X4.new w v0 v1 v2 v3 38
 rw [hW]
 refine ⟨x,?_⟩
 rw [← hW]
 exact ⟨_,_,heap_alloc_new _ _⟩
/- a box of a machine's type is no block of its rows -/
def BxT (w:World) (b:Nat):Prop:=∃ cs f,w.heap[b]? =some (.cells cs 38 f)
theorem own_bx {w:World} {base size n b:Nat} {e:TypeId} {v:Value} {xs:List Value} (h:w.ownsRow base e size v n xs) (he:e≠38) (hb:BxT w b):v.ownBlock≠some b:=by
 obtain ⟨cs,f,c⟩:=hb
 intro hk
 rcases h.2 with ⟨rfl,-⟩ | ⟨g,cap,cur,rfl,-,c',-⟩
 ·cases hk
 ·simp only [Value.ownBlock,Option.some.injEq] at hk
  subst hk
  rw [c] at c'
  injection c' with c'
  injection c' with _ c'
  exact he c'.symm
theorem heap_set {w:World} {g k:Nat} {v:Value} {cur:Array Value} {e:TypeId} {fr:Nat×Nat} (h:w.heap[g]? =some (.cells cur e fr)):(w.setCell ⟨g,k,none⟩ v).heap[g]? =some (.cells (cur.setIfInBounds k v) e fr):=by
 simp only [World.setCell,Array.getElem?_modify,h]
 simp
theorem BxT.set {w:World} {b g o:Nat} {v:Value} (h:BxT w b):BxT (w.setCell ⟨g,o,none⟩ v) b:=by
 obtain ⟨cs,f,c⟩:=h
 by_cases e:b=g
 ·subst e
  exact ⟨_,f,heap_set c⟩
 ·exact ⟨cs,f,(Below.heap_setCell _ _ _ b e).trans c⟩
theorem OwnC.off {w w':World} {base b:Nat} {v:Value} {L:List CV} (h:OwnC w base v L) (ht:BxT w b) (hb:∀ k,k≠b→w'.heap[k]? =w.heap[k]?):OwnC w' base v L:=
 ⟨ownKeep' h.row (fun k hk=>hb k (fun e=>own_bx h.row (by decide) ht (by rw [hk,e]))),fun i x hx=>ownKeep' (h.inn i x hx) (fun k hk=>hb k (fun e=>own_bx (h.inn i x hx) (by decide) ht (by rw [hk,e]))),h.sep⟩
theorem OwnK.off {w w':World} {base b:Nat} {v:Value} {L:List KV} (h:OwnK w base v L) (ht:BxT w b) (hb:∀ k,k≠b→w'.heap[k]? =w.heap[k]?):OwnK w' base v L:=
 ⟨ownKeep' h.row (fun k hk=>hb k (fun e=>own_bx h.row (by decide) ht (by rw [hk,e]))),fun i x hx=>⟨ownKeep' (h.inn i x hx).1 (fun k hk=>hb k (fun e=>own_bx (h.inn i x hx).1 (by decide) ht (by rw [hk,e]))),ownKeep' (h.inn i x hx).2 (fun k hk=>hb k (fun e=>own_bx (h.inn i x hx).2 (by decide) ht (by rw [hk,e])))⟩,h.two,h.sep⟩
theorem OwnD.off {w w':World} {base b:Nat} {v:Value} {l:List ND} (h:OwnD w base v l) (ht:BxT w b) (hb:∀ k,k≠b→w'.heap[k]? =w.heap[k]?):OwnD w' base v l:=ownKeep' h (fun k hk=>hb k (fun e=>own_bx h (by decide) ht (by rw [hk,e])))
theorem OW.off {w w':World} {B b:Nat} {v:Value} {S:List RS} {m:List (List WD)} (h:OW w B v S m) (ht:BxT w b) (hb:∀ k,k≠b→w'.heap[k]? =w.heap[k]?) (hs:w.heap.size≤w'.heap.size):OW w' B v S m:=by
 refine ⟨h.n,ownKeep' h.row (fun k hk=>hb k (fun e=>own_bx h.row (by decide) ht (by rw [hk,e]))),fun i r l hr hl=>?_,h.d⟩
 have q:=h.r i r l hr hl
 refine q.kept (fun k hk=>hb k (fun e=>?_)) (fun a ha=>hb _ (fun e=>?_)) hs
 ·obtain ⟨cs,c⟩:=q.blkT hk
  obtain ⟨cs',f,c'⟩:=ht
  rw [e,c'] at c
  injection c with c
  injection c with _ c
  exact absurd c (by decide)
 ·obtain ⟨cs,f,c⟩:=q.vt a ha
  obtain ⟨cs',f',c'⟩:=ht
  rw [e,c'] at c
  injection c with c
  injection c with _ c
  exact absurd c (by decide)
end
section
set_option linter.unusedSimpArgs false
set_option linter.unusedVariables false
set_option maxRecDepth 100000
open Go.RowKit
theorem viewB_iff {m:List (List WD)} {l:List Int}:viewB m l=true↔l.length=m.length∧∀ i,i < l.length→0≤l.getD i 0∧l.getD i 0 < ((m.getD i []).length:Int):=by unfold viewB;rw [decide_eq_true_eq]
theorem viewB_grow {m m':List (List WD)} {l:List Int} (h:viewB m l=true) (hn:m'.length=m.length) (hg:∀ i,(m.getD i []).length≤(m'.getD i []).length):viewB m' l=true:=by
 rw [viewB_iff] at h ⊢
 refine ⟨by omega,fun i hi=>?_⟩
 have:=h.2 i hi
 have:=hg i
 omega
theorem getD_setI {l:List Int} {k i:Nat} {v:Int} (hk:k < l.length):(l.set k v).getD i 0=if i=k then v else l.getD i 0:=by
 rw [List.getD_eq_getElem?_getD,List.getElem?_set]
 by_cases e:k=i
 ·subst e
  simp [hk]
 ·rw [if_neg e,if_neg (fun q=>e q.symm),List.getD_eq_getElem?_getD]
theorem getD_setM {m:List (List WD)} {k i:Nat} {v:List WD} (hk:k < m.length):(m.set k v).getD i []=if i=k then v else m.getD i []:=by
 rw [List.getD_eq_getElem?_getD,List.getElem?_set]
 by_cases e:k=i
 ·subst e
  simp [hk]
 ·rw [if_neg e,if_neg (fun q=>e q.symm),List.getD_eq_getElem?_getD]
theorem memB_at {m:List (List WD)} (h:memB m=true) {i:Nat} (hi:i < 24):m.length=24∧∃ r,m[i]? =some r∧m.getD i []=r∧1≤r.length∧r.length≤4000∧∀ x∈r,viewB m x.vw=true:=by
 unfold memB at h
 rw [Bool.and_eq_true,decide_eq_true_eq,List.all_eq_true] at h
 obtain ⟨r,hr⟩:∃ r,m[i]? =some r:=⟨_,List.getElem?_eq_getElem (by omega)⟩
 have q:=h.2 r (List.mem_of_getElem? hr)
 unfold rowB at q
 rw [Bool.and_eq_true,decide_eq_true_eq,List.all_eq_true] at q
 exact ⟨h.1,r,hr,by rw [List.getD_eq_getElem?_getD,hr];rfl,q.1.1,q.1.2,q.2⟩
theorem memB_of {m:List (List WD)} (h24:m.length=24) (h:∀ i,i < 24→1≤(m.getD i []).length∧(m.getD i []).length≤4000∧∀ x∈m.getD i [],viewB m x.vw=true):memB m=true:=by
 unfold memB
 rw [Bool.and_eq_true,decide_eq_true_eq,List.all_eq_true]
 refine ⟨h24,fun r hr=>?_⟩
 obtain ⟨i,hi,e⟩:=List.mem_iff_getElem.1 hr
 have q:=h i (by omega)
 rw [show m.getD i []=r by rw [List.getD_eq_getElem?_getD,List.getElem?_eq_getElem hi,e];rfl] at q
 unfold rowB
 rw [Bool.and_eq_true,decide_eq_true_eq,List.all_eq_true]
 exact ⟨⟨q.1,q.2.1⟩,q.2.2⟩
theorem ldJ_lt {m:List (List WD)} {l:List Int} {c:Nat} (late:Int) (hm:memB m=true) (hv:viewB m l=true) (hc:c < 24):ldJ m l c late < (m.getD c []).length∧mx (l.getD c 0) (((m.getD c []).length:Int) - 1 - mx late 0)=(ldJ m l c late:Int):=by
 obtain ⟨h24,r,-,er,n1,-,-⟩:=memB_at hm hc
 rw [viewB_iff] at hv
 have q:=hv.2 c (by omega)
 unfold ldJ
 rw [er] at q ⊢
 unfold mx
 split<;>split<;>omega
theorem ldX_at {m:List (List WD)} {l:List Int} {c:Nat} (late:Int) (hm:memB m=true) (hv:viewB m l=true) (hc:c < 24):∃ r,m[c]? =some r∧r[ldJ m l c late]? =some (ldX m l c late)∧viewB m (ldX m l c late).vw=true:=by
 obtain ⟨h24,r,hr,er,n1,-,hx⟩:=memB_at hm hc
 have hj:=(ldJ_lt late hm hv hc).1
 rw [er] at hj
 have e:r[ldJ m l c late]? =some (ldX m l c late):=by
  unfold ldX
  rw [er,List.getD_eq_getElem?_getD,List.getElem?_eq_getElem hj]
  rfl
 exact ⟨r,hr,e,hx _ (List.mem_of_getElem? e)⟩
theorem ldW_ok {m:List (List WD)} {l:List Int} {c:Nat} (late:Int) (hold:Bool) (hm:memB m=true) (hv:viewB m l=true) (hc:c < 24):viewB m (ldW m l c late hold)=true:=by
 obtain ⟨h24,-⟩:=memB_at hm hc
 have hj:=(ldJ_lt late hm hv hc).1
 obtain ⟨r,hr,e,hx⟩:=ldX_at late hm hv hc
 have hs:viewB m (l.set c (ldJ m l c late))=true:=by
  rw [viewB_iff] at hv ⊢
  refine ⟨by rw [List.length_set];exact hv.1,fun i hi=>?_⟩
  rw [List.length_set] at hi
  rw [getD_setI (by omega)]
  split
  ·rename_i q;subst q;omega
  ·exact hv.2 i hi
 unfold ldW
 split
 ·rw [viewB_iff] at hs hx ⊢
  have hl:(joinL (l.set c (ldJ m l c late)) (ldX m l c late).vw).length=m.length:=by unfold joinL;rw [List.length_zipWith];omega
  refine ⟨hl,fun i hi=>?_⟩
  have a:=hs.2 i (by omega)
  have b:=hx.2 i (by omega)
  have ej:(joinL (l.set c (ldJ m l c late)) (ldX m l c late).vw).getD i 0=mx ((l.set c (ldJ m l c late)).getD i 0) ((ldX m l c late).vw.getD i 0):=by
   have h1:i < (l.set c (ldJ m l c late)).length:=by omega
   have h2:i < (ldX m l c late).vw.length:=by omega
   unfold joinL
   simp only [List.getD_eq_getElem?_getD,List.getElem?_zipWith,List.getElem?_eq_getElem h1,List.getElem?_eq_getElem h2,Option.getD_some]
  rw [ej]
  generalize (l.set c (ldJ m l c late)).getD i 0=p at a
  generalize (ldX m l c late).vw.getD i 0=q at b
  unfold mx
  split<;>omega
 ·exact hs
theorem stM_ok {m:List (List WD)} {l:List Int} {c:Nat} (z:Int) (b:Bool) (hm:memB m=true) (hv:viewB m l=true) (hc:c < 24) (hf:¬ (m.getD c []).length=4000):memB (stM m l c z b)=true∧viewB (stM m l c z b) (stW m l c)=true∧∀ v,viewB m v=true→viewB (stM m l c z b) v=true:=by
 obtain ⟨h24,r,hr,er,n1,n4,hx⟩:=memB_at hm hc
 have hcm:c < m.length:=by omega
 have hn:(stM m l c z b).length=m.length:=by unfold stM;rw [List.length_set]
 have hg:∀ i,((stM m l c z b).getD i [])=if i=c then r++[⟨z,toldL l c r.length b⟩] else m.getD i []:=fun i=>by unfold stM;rw [getD_setM hcm,er]
 have grow:∀ v,viewB m v=true→viewB (stM m l c z b) v=true:=fun v h=>viewB_grow h hn (fun i=>by
  rw [hg]
  split
  ·rename_i q;subst q;rw [er];simp
  ·exact Nat.le_refl _)
 have pos:∀ i,i < 24→0 < ((stM m l c z b).getD i []).length:=fun i hi=>by
  rw [hg]
  split
  ·simp
  ·obtain ⟨-,r',-,e',n',-⟩:=memB_at hm hi;rw [e'];omega
 have hvw:=hv
 rw [viewB_iff] at hvw
 have hst:viewB (stM m l c z b) (l.set c (r.length:Int))=true:=by
  have hgv:=grow l hv
  rw [viewB_iff] at hgv ⊢
  refine ⟨by rw [List.length_set];exact hgv.1,fun i hi=>?_⟩
  rw [List.length_set] at hi
  rw [getD_setI (by omega)]
  split
  ·rename_i q
   subst q
   rw [hg,if_pos rfl]
   simp
   omega
  ·exact hgv.2 i hi
 have htold:viewB (stM m l c z b) (toldL l c r.length b)=true:=by
  unfold toldL
  split
  ·exact hst
  ·rw [viewB_iff]
   refine ⟨by rw [List.length_set,List.length_replicate,hn,h24],fun i hi=>?_⟩
   rw [List.length_set,List.length_replicate] at hi
   rw [getD_setI (by rw [List.length_replicate];exact hc)]
   split
   ·rename_i q
    subst q
    rw [hg,if_pos rfl]
    simp
    omega
   ·have:=pos i hi
    rw [show (List.replicate 24 (0:Int)).getD i 0=0 by rw [List.getD_eq_getElem?_getD,List.getElem?_replicate];split<;>rfl]
    omega
 refine ⟨memB_of (by omega) (fun i hi=>?_),by unfold stW;rw [er];exact hst,grow⟩
 rw [hg]
 split
 ·rename_i q
  subst q
  rw [er] at hf
  refine ⟨by simp,by simp;omega,fun x hx'=>?_⟩
  rw [List.mem_append,List.mem_singleton] at hx'
  rcases hx' with h | h
  ·exact grow _ (hx x h)
  ·subst h;exact htold
 ·obtain ⟨-,r',-,e',n',n'',hx'⟩:=memB_at hm hi
  rw [e']
  exact ⟨n',n'',fun x h=>grow _ (hx' x h)⟩
/- a machine, one of its cores turned -/
theorem coresB_iff {m:List (List WD)} {cs:List KD} {l:List (List I5)}:coresB m cs l=true↔cs.length=l.length∧∀ (i:Nat) (k:KD) (c:List I5),cs[i]? =some k→l[i]? =some c→coreB m k c.length=true:=by
 unfold coresB
 rw [Bool.and_eq_true,decide_eq_true_eq,List.all_eq_true]
 constructor
 ·rintro ⟨h,q⟩
  refine ⟨h,fun i k c hk hc=>q (k,c) (List.mem_of_getElem? (i:=i) ?_)⟩
  rw [List.getElem?_zip_eq_some]
  exact ⟨hk,hc⟩
 ·rintro ⟨h,q⟩
  refine ⟨h,fun x hx=>?_⟩
  obtain ⟨i,hi,e⟩:=List.mem_iff_getElem.1 hx
  have e':(cs.zip l)[i]? =some x:=by rw [List.getElem?_eq_getElem hi,e]
  rw [List.getElem?_zip_eq_some] at e'
  exact q i x.1 x.2 e'.1 e'.2
theorem coreB_iff {m:List (List WD)} {k:KD} {n:Nat}:coreB m k n=true↔k.regs.length=8∧(0≤k.st∧k.st≤2)∧(0≤k.pc∧k.pc < (n:Int))∧viewB m k.vw=true:=by
 unfold coreB Plain.inB Plain.oneB
 rw [Bool.and_eq_true,Bool.and_eq_true,Bool.and_eq_true,decide_eq_true_eq,decide_eq_true_eq,decide_eq_true_eq]
theorem machB_iff {d:MD}:machB d=true↔codesB d.codes=true∧coresB d.mem d.cores d.codes=true∧trB d.tr d.cores.length=true∧memB d.mem=true:=by
 unfold machB
 rw [Bool.and_eq_true,Bool.and_eq_true,Bool.and_eq_true]
theorem keep_core {d:MD} {who:Nat} {k k':KD} {code:List I5} {s:I5} (h:machB d=true) (ha:At8 d who k code s) (m':List (List WD)) (tr':List ND) (hm:memB m'=true) (hg:∀ v,viewB d.mem v=true→viewB m' v=true) (ht:trB tr' d.cores.length=true) (hk:coreB m' k' code.length=true):machB (putK { d with mem:=m',tr:=tr' } who k')=true:=by
 rw [machB_iff] at h ⊢
 obtain ⟨h1,h2,-,-⟩:=h
 rw [coresB_iff] at h2
 refine ⟨h1,?_,by show trB tr' (d.cores.set who k').length=true;rw [List.length_set];exact ht,hm⟩
 show coresB m' (d.cores.set who k') d.codes=true
 rw [coresB_iff]
 refine ⟨by rw [List.length_set];exact h2.1,fun i x c hx hc=>?_⟩
 rw [List.getElem?_set] at hx
 by_cases e:who=i
 ·subst e
  rw [if_pos rfl] at hx
  split at hx
  ·injection hx with hx
   subst hx
   rw [ha.hc] at hc
   injection hc with hc
   subst hc
   exact hk
  ·cases hx
 ·rw [if_neg e] at hx
  have q:=h2.2 i x c hx hc
  rw [coreB_iff] at q ⊢
  exact ⟨q.1,q.2.1,q.2.2.1,hg _ q.2.2.2⟩
theorem keep_go {d:MD} {who:Nat} {k k':KD} {code:List I5} {s:I5} (h:machB d=true) (ha:At8 d who k code s) (m':List (List WD)) (tr':List ND) (p:Int) (hm:memB m'=true) (hg:∀ v,viewB d.mem v=true→viewB m' v=true) (ht:trB tr' d.cores.length=true) (hr:k'.regs.length=8) (hs:k'.st=k.st) (hpc:k'.pc=k.pc) (hv:viewB m' k'.vw=true) (hp:0≤p):machB (goM { d with mem:=m',tr:=tr' } who k' code.length p)=true:=by
 have q0:=ha.pc0
 have q1:=ha.pcl
 have q2:=ha.st0
 have q3:=ha.st2
 unfold goM
 split
 ·rename_i hlt
  refine keep_core h ha m' tr' hm hg ht ?_
  rw [coreB_iff]
  exact ⟨hr,by show 0≤k'.st∧k'.st≤2;omega,⟨hp,hlt⟩,hv⟩
 ·refine keep_core h ha m' tr' hm hg ht ?_
  rw [coreB_iff]
  exact ⟨hr,⟨by show (0:Int)≤2;omega,by show (2:Int)≤2;omega⟩,by show 0≤k'.pc∧k'.pc < _;omega,hv⟩
set_option maxHeartbeats 2000000 in
theorem stepAt_ok {d:MD} {who:Nat} {k:KD} {code:List I5} {s:I5} (late:Int) (h:machB d=true) (ha:At8 d who k code s):machB (stepAt d who late k code.length s).1=true:=by
 have hm:=ha.mem
 have ht:trB d.tr d.cores.length=true:=(machB_iff.1 h).2.2.1
 have q0:=ha.pc0
 have id:∀ v,viewB d.mem v=true→viewB d.mem v=true:=fun _ q=>q
 have hst:∀ st',0≤st'→st'≤2→machB (putK d who { k with st:=st' })=true:=fun st' a b=>keep_core h ha d.mem d.tr hm id ht (by rw [coreB_iff];exact ⟨ha.regs,⟨a,b⟩,⟨ha.pc0,ha.pcl⟩,ha.vw⟩)
 have hreg:∀ (r v:Int),machB (goM d who (setR k r v) code.length (k.pc+1))=true:=fun r v=>keep_go h ha d.mem d.tr (k.pc+1) hm id ht (by unfold setR;rw [List.length_set];exact ha.regs) rfl rfl ha.vw (by omega)
 have hw:who < d.cores.length:=by
  have:=ha.hk
  rw [List.getElem?_eq_some_iff] at this
  exact this.1
 have hok:=ha.ok
 unfold stX Plain.stepB at hok
 rw [decide_eq_true_eq] at hok
 unfold stepAt
 by_cases e1:s.o=1
 ·rw [if_pos e1];exact hreg _ _
 rw [if_neg e1]
 by_cases e2:s.o=2
 ·rw [if_pos e2];exact hreg _ _
 rw [if_neg e2]
 by_cases e3:s.o=3
 ·rw [if_pos e3];exact hreg _ _
 rw [if_neg e3]
 by_cases e4:s.o=4
 ·rw [if_pos e4];exact hreg _ _
 rw [if_neg e4]
 by_cases e9:s.o=9
 ·rw [if_pos e9]
  by_cases hf:d.tr.length=4000
  ·rw [if_pos hf];exact h
  ·rw [if_neg hf]
   have htr:=ha.tr
   refine keep_go h ha d.mem (d.tr++[⟨who,regA k s.a⟩]) (k.pc+1) hm id ?_ ha.regs rfl rfl ha.vw (by omega)
   unfold trB at ht ⊢
   rw [Bool.and_eq_true,decide_eq_true_eq] at ht ⊢
   refine ⟨by rw [List.length_append];simp;omega,?_⟩
   rw [List.all_append,ht.2]
   simp [Plain.oneB]
   omega
 rw [if_neg e9]
 by_cases e10:s.o=10
 ·rw [if_pos e10]
  exact keep_go h ha d.mem d.tr s.n hm id ht ha.regs rfl rfl ha.vw (by omega)
 rw [if_neg e10]
 by_cases e11:s.o=11
 ·rw [if_pos e11]
  exact keep_go h ha d.mem d.tr _ hm id ht ha.regs rfl rfl ha.vw (by split<;>omega)
 rw [if_neg e11]
 by_cases e12:s.o=12
 ·rw [if_pos e12];exact hst 1 (by omega) (by omega)
 rw [if_neg e12]
 by_cases e13:s.o=13
 ·rw [if_pos e13];exact hst 2 (by omega) (by omega)
 rw [if_neg e13]
 by_cases hc:0≤cellM k s∧cellM k s≤23
 ·rw [if_pos hc]
  generalize hcc:(cellM k s).toNat=c
  have hc24:c < 24:=by omega
  split
  ·exact h
  ·rename_i hfull
   unfold memS
   by_cases e5:s.o=5
   ·rw [if_pos e5]
    exact keep_go h ha d.mem d.tr (k.pc+1) hm id ht (by show (k.regs.set _ _).length=8;rw [List.length_set];exact ha.regs) rfl rfl (ldW_ok late false hm ha.vw hc24) (by omega)
   ·rw [if_neg e5]
    have hf:¬ (d.mem.getD c []).length=4000:=fun q=>hfull ⟨e5,q⟩
    by_cases e8:s.o=8
    ·rw [if_pos e8]
     obtain ⟨a1,a2,a3⟩:=stM_ok (regA k s.b) true hm (ldW_ok 0 true hm ha.vw hc24) hc24 hf
     exact keep_go h ha _ d.tr (k.pc+1) a1 a3 ht (by show (k.regs.set _ _).length=8;rw [List.length_set];exact ha.regs) rfl rfl a2 (by omega)
    ·rw [if_neg e8]
     obtain ⟨a1,a2,a3⟩:=stM_ok (regA k s.b) (decide (s.o=7)) hm ha.vw hc24 hf
     exact keep_go h ha _ d.tr (k.pc+1) a1 a3 ht ha.regs rfl rfl a2 (by omega)
 ·rw [if_neg hc];exact hst 2 (by omega) (by omega)
theorem stepM_ok {d:MD} (who late:Int) (h:machB d=true):machB (stepM d who late).1=true:=by
 by_cases hw:0≤who∧who < (d.cores.length:Int)
 ·obtain ⟨n,rfl⟩:∃ n:Nat,who=(n:Int):=⟨who.toNat,by omega⟩
  obtain ⟨k,code,s,ha⟩:=mach_at h (who:=n) (by omega)
  by_cases hr:k.st=0
  ·rw [stepM_at ha late hr];exact stepAt_ok late h ha
  ·rw [stepM_over ha late hr];exact h
 ·rw [stepM_none late hw];exact h
end
section
set_option linter.unusedSimpArgs false
set_option linter.unusedVariables false
set_option maxRecDepth 100000
open Go.RowKit
theorem two4x {w W:World} {a b c d a' b' c' d':Value} {T T':TypeId} (hW:(w.alloc (.cells #[a,b,c,d] T)).alloc (.cells #[a',b',c',d'] T')=W):Below w.heap.size w W∧X4 W w.heap.size a b c d∧X4 W (w.heap.size+1) a' b' c' d'∧W.heap.size=w.heap.size+2:=by
 subst hW
 refine ⟨((Below.refl _ _).alloc (Nat.le_refl _) _).alloc (by simp) _,⟨⟨?_,?_,?_,?_,?_⟩,?_⟩,⟨⟨?_,?_,?_,?_,?_⟩,?_⟩,?_⟩<;>first | (simp [go_sem];done) | (simp [go_sem];omega) | (intro j;simp [go_sem])
set_option maxHeartbeats 1000000 in
theorem sameCore_any (k : KD) (s1 s2 : Option Addr) (c1 c2 lo hi : Nat) (w : World) (h1 : IntsR w lo hi s1 k.regs) (h2 : IntsR w lo hi s2 k.vw) (hB : hi ≤ w.heap.size) (hl1 : k.regs.length ≤ 1048576) (hl2 : k.vw.length ≤ 1048576) :
  Calls Tryz.prog 96 #[.agg #[.int .i64 k.pc,.slice s1 k.regs.length c1,.slice s2 k.vw.length c2,.int .i64 k.st]] w fun e w'=>∃ a1 b1 a2 b2,e=.returned (.agg #[.int .i64 k.pc,.slice a1 k.regs.length b1,.slice a2 k.vw.length b2,.int .i64 k.st])∧OwnN w' w.heap.size (.slice a1 k.regs.length b1) k.regs∧OwnN w' w.heap.size (.slice a2 k.vw.length b2) k.vw∧(∀ q,(Value.slice a1 k.regs.length b1).ownBlock=some q→(Value.slice a2 k.vw.length b2).ownBlock≠some q)∧Below w.heap.size w w'∧w.heap.size < w'.heap.size:=by
 have H1:Hid (IntsR w lo hi s1 k.regs):=h1
 have H2:Hid (IntsR w lo hi s2 k.vw):=h2
 clear h1 h2
 go_enter Tryz.func96,Tryz.ntmps96
 obtain ⟨W,hW⟩:∃ W,(w.alloc (.cells #[.int .i64 k.pc,.slice s1 k.regs.length c1,.slice s2 k.vw.length c2,.int .i64 k.st] 53)).alloc (.cells #[.int .i64 0,.slice none 0 0,.slice none 0 0,.int .i64 0] 53)=W:=⟨_,rfl⟩
 obtain ⟨kw,xa,xb,zw⟩:=two4x hW
 have HW:Hid ((w.alloc (.cells #[.int .i64 k.pc,.slice s1 k.regs.length c1,.slice s2 k.vw.length c2,.int .i64 k.st] 53)).alloc (.cells #[.int .i64 0,.slice none 0 0,.slice none 0 0,.int .i64 0] 53)=W):=hW
 have XA:Hid (X4 W w.heap.size (.int .i64 k.pc) (.slice s1 k.regs.length c1) (.slice s2 k.vw.length c2) (.int .i64 k.st)):=xa
 have XB:Hid (X4 W (w.heap.size+1) (.int .i64 0) (.slice none 0 0) (.slice none 0 0) (.int .i64 0)):=xb
 have KW:Hid (Below w.heap.size w W):=kw
 have zW:w.heap.size+2≤W.heap.size:=by omega
 have HR1:Hid (IntsR W lo hi s1 k.regs):=H1.out.keep (Keep.of_below kw hB)
 have zW':=zw
 clear hW kw xa xb zw
 go_wp2_with ((at_builtin;rw [HW.out];refine app_copyI rfl _ _ rfl rfl W W.heap.size none 0 (by first | rfl | (rw [zW'];rfl)) (World.ownsRow_nil _ _ _ _) s1 c1 k.regs (by rfl) (HR1.out) (by omega) (Nat.le_refl _) ?_;intro a1 b1 w1 ho1 hc1;have O1:=(show Hid (OwnN w1 W.heap.size (.slice a1 k.regs.length b1) k.regs) from ho1);have kl:=(show Below W.heap.size W w1 from hc1.low);have K1:=(show Hid (Below W.heap.size W w1) from kl);have YA:=(show Hid (X4 w1 w.heap.size (.int .i64 k.pc) (.slice s1 k.regs.length c1) (.slice s2 k.vw.length c2) (.int .i64 k.st)) from XA.out.keep kl (by omega));have YB:=(show Hid (X4 w1 (w.heap.size+1) (.int .i64 0) (.slice none 0 0) (.slice none 0 0) (.int .i64 0)) from XB.out.keep kl (by omega));have ya:=YA.out.x.c1;have ya2:=YA.out.x.c2;have yf:=YA.out.fz 1;have za:=YA.out.x.z;clear ho1 hc1 kl))
 obtain ⟨V,hV⟩:∃ V,w1.setCell ⟨w.heap.size,1,none⟩ (.slice a1 k.regs.length b1)=V:=⟨_,rfl⟩
 have VA:Hid (X4 V w.heap.size (.int .i64 k.pc) (.slice a1 k.regs.length b1) (.slice s2 k.vw.length c2) (.int .i64 k.st)):=by rw [← hV];exact YA.out.set1
 have VB:Hid (X4 V (w.heap.size+1) (.int .i64 0) (.slice none 0 0) (.slice none 0 0) (.int .i64 0)):=by rw [← hV];exact YB.out.off (by omega)
 have vs:V.heap.size=w1.heap.size:=by rw [← hV];simp
 have k1s:=K1.out.size
 have KV:Hid (Below w.heap.size w V):=by rw [← hV];exact (KW.out.trans (K1.out.mono (by omega))).setCell (p:=⟨w.heap.size,1,none⟩) (Nat.le_refl _) _
 have OV:Hid (OwnN V W.heap.size (.slice a1 k.regs.length b1) k.regs):=by
  rw [← hV]
  exact ownKeep' O1.out (fun b hb=>Below.heap_setCell _ _ _ b (by have:=(World.ownsRow.lt O1.out _ hb).1;simp;omega))
 have HR2:Hid (IntsR V lo hi s2 k.vw):=H2.out.keep (Keep.of_below KV.out hB)
 have zV:w.heap.size+2≤V.heap.size:=by omega
 rw [hV]
 obtain ⟨va0,va1,va2,va3,va4⟩:=VA.out.x
 have vf:=VA.out.fz
 clear hV ya ya2 yf za YA YB O1 K1 vs
 refine (copied_any s2 c2 lo hi k.vw V HR2.out (by omega) (by omega)).mono ?_
 rintro e w2 ⟨rfl,ho2,hb2⟩
 obtain ⟨G,hG,g1,g2⟩:∃ G,V.heap.size=G∧V.heap.size≤G∧G≤V.heap.size:=⟨_,rfl,Nat.le_refl _,Nat.le_refl _⟩
 obtain ⟨a2,ha2⟩:∃ a,some (⟨G,0,none⟩:Addr)=a:=⟨_,rfl⟩
 obtain ⟨b2,hb2'⟩:∃ b,k.vw.length=b:=⟨_,rfl⟩
 have P2:Hid (OwnN w2 V.heap.size (.slice a2 k.vw.length b2) k.vw):=by rw [← ha2,← hb2',← hG];exact ho2
 have K2:Hid (Below V.heap.size V w2):=hb2
 have er:(Value.slice (some ⟨V.heap.size,0,none⟩) k.vw.length k.vw.length)=.slice a2 k.vw.length b2:=by rw [hG,ha2,← hb2']
 rw [er]
 clear ho2 hb2 hG er ha2 hb2'
 have KK:Hid (Below w.heap.size w w2):=KV.out.trans (K2.out.mono (by omega))
 have ZA:Hid (X4 w2 w.heap.size (.int .i64 k.pc) (.slice a1 k.regs.length b1) (.slice s2 k.vw.length c2) (.int .i64 k.st)):=VA.out.keep K2.out (by omega)
 have ZB:Hid (X4 w2 (w.heap.size+1) (.int .i64 0) (.slice none 0 0) (.slice none 0 0) (.int .i64 0)):=VB.out.keep K2.out (by omega)
 have P1:Hid (OwnN w2 W.heap.size (.slice a1 k.regs.length b1) k.regs):=ownKeep' OV.out (fun b hb=>K2.out.block b (World.ownsRow.lt OV.out _ hb).2)
 have SP:Hid (∀ q,(Value.slice a1 k.regs.length b1).ownBlock=some q→(Value.slice a2 k.vw.length b2).ownBlock≠some q):=fun q h1 h2=>by
  have:=(World.ownsRow.lt OV.out _ h1).2
  have:=(World.ownsRow.lt P2.out _ h2).1
  omega
 clear va1 va2 va3 va4 vf
 obtain ⟨za0,za1,za2,za3,za4⟩:=ZA.out.x
 have zf:=ZA.out.fz
 obtain ⟨yb0,yb1,yb2,yb3,yb4⟩:=ZB.out.x
 have yf2:=ZB.out.fz
 have zz2:=K2.out.size
 go_wp2
 obtain ⟨Z,hZ,xz,kz,sz,fz⟩:∃ Z,((((w2.setCell ⟨w.heap.size,2,none⟩ (.slice a2 k.vw.length b2)).setCell ⟨w.heap.size+1,0,none⟩ (.int .i64 k.pc)).setCell ⟨w.heap.size+1,1,none⟩ (.slice a1 k.regs.length b1)).setCell ⟨w.heap.size+1,2,none⟩ (.slice a2 k.vw.length b2)).setCell ⟨w.heap.size+1,3,none⟩ (.int .i64 k.st)=Z∧X4 Z (w.heap.size+1) (.int .i64 k.pc) (.slice a1 k.regs.length b1) (.slice a2 k.vw.length b2) (.int .i64 k.st)∧Below w.heap.size w Z∧Z.heap.size=w2.heap.size∧∀ b,w.heap.size+2≤b→Z.heap[b]? =w2.heap[b]? :=by
  refine ⟨_,rfl,(ZB.out.off (by omega)).set0.set1.set2.set3,?_,by simp,fun b hb=>?_⟩
  ·refine Below.setCell (Below.setCell (Below.setCell (Below.setCell (Below.setCell KK.out ?_ _) ?_ _) ?_ _) ?_ _) ?_ _<;>simp
  ·rw [Below.heap_setCell _ _ _ b (by simp;omega),Below.heap_setCell _ _ _ b (by simp;omega),Below.heap_setCell _ _ _ b (by simp;omega),Below.heap_setCell _ _ _ b (by simp;omega),Below.heap_setCell _ _ _ b (by simp;omega)]
 have o1:OwnN Z w.heap.size (.slice a1 k.regs.length b1) k.regs:=by
  have o:OwnN w2 w.heap.size (.slice a1 k.regs.length b1) k.regs:=ownLow' P1.out (by omega)
  exact ownKeep' o (fun b hb=>fz b (by have:=(World.ownsRow.lt P1.out _ hb).1;omega))
 have o2:OwnN Z w.heap.size (.slice a2 k.vw.length b2) k.vw:=by
  have o:OwnN w2 w.heap.size (.slice a2 k.vw.length b2) k.vw:=ownLow' P2.out (by omega)
  exact ownKeep' o (fun b hb=>fz b (by have:=(World.ownsRow.lt P2.out _ hb).1;omega))
 refine bodyPost_ret (v:=.agg #[.int .i64 k.pc,.slice a1 k.regs.length b1,.slice a2 k.vw.length b2,.int .i64 k.st]) ?_ rfl ?_
 ·rw [hZ]
  simp [results,Tryz.results96,go_sem,xz.x.c0,xz.x.c1,xz.x.c2,xz.x.c3]
 ·rw [hZ]
  exact ⟨a1,b1,a2,b2,rfl,o1,o2,SP.out,kz,by omega⟩
end
end Go.Proofs.YtlbeploopclegaaGreat
