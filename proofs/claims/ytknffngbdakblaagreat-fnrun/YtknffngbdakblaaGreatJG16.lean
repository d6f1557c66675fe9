/- A turn, whoever takes it. Conditions: program and source are right. Who is able, of the program: an iterator over threads, and the two functions that go over it. Conditions: program and source fit. Able and anybodyAble of the program: loops over the iterator. Conditions: program and source fit. Able of the specification, and Stuck of both. Conditions: program and source fit. l1DrawRight: a program that is right is drawn into new memory, with what it has; the cursor's own block alone is turned. Conditions: the cursor and its bytes lie in memory as the reading says. -/
import Derived.Test.YtknffngbdakblaaGreatJG00
import Derived.Test.YtknffngbdakblaaGreatJG07
import Derived.Test.YtknffngbdakblaaGreatJG15
import Derived.Test.YtknffngbdakblaaGreatJG06
import Derived.Test.YtknffngbdakblaaGreatJG08
import Derived.Test.YtknffngbdakblaaGreatJG01
import Derived.Test.YtknffngbdakblaaGreatJStepIm10
import Derived.Test.YtknffngbdakblaaGreatJG12
import Derived.Test.YtknffngbdakblaaGreatJG09
import Derived.Test.YtknffngbdakblaaGreatJSrcDup
import Derived.RangeFuncBox
import Derived.RangeFuncNested
import Derived.RangeFuncBound
import Derived.RangeFuncCalls
import Derived.RangeFuncLeaves
import Derived.Shelf.Abstract
import Derived.Shelf.RegionOpen
import Derived.WalkKit
import Derived.OwnWalkIn
import Derived.TacticsInMore
import Derived.LoopNIn
import Derived.LoopIn
import Derived.Maps.AppendAt
import Derived.Test.YtknffngbdakblaaGreatJG03
import Derived.Test.YtknffngbdakblaaGreatJG11
import Derived.Test.YtknffngbdakblaaGreatJDrawBodyR
import Derived.Test.YtknffngbdakblaaGreatJG02
import Derived.Deep.RegionLaw
namespace Go.Proofs.YtknffngbdakblaaGreat
section
set_option linter.unusedSimpArgs false
set_option linter.unusedVariables false
set_option maxRecDepth 100000
open Go.RowKit
theorem turnIn_any (p1 p2 : Option Addr) (a1 a2 lo hi base S : Nat) (p : PD) (v1 v2 v3 : Value) (L1 L2 : List (Rec × Value)) (d : SD) (who : Int) (w : World) (hP : ProgR w lo hi p1 p2 p) (hB : hi ≤ base) (hO : OwnS w base v1 v2 v3 L1 L2 d) (hS : BoF S w v1 v2 v3) (hbs : BxS w S) (hb : base ≤ w.heap.size) (hR : Right p d) (hSb : base ≤ S) :
  Calls Tryz.prog 29 #[.agg #[.slice p1 p.caps.length a1,.slice p2 p.bods.length a2],.pointer (some ⟨S,0,none⟩),.int .i64 who] w fun e w'=>TurnP w S base v1 v2 v3 L1 L2 (stepK p d who) (stepS p d who) e w':=by
 by_cases hw:0≤who∧who < (d.ths.length:Int)
 ·obtain ⟨k,rfl⟩:∃ k:Nat,who=(k:Int):=⟨who.toNat,by omega⟩
  obtain ⟨t,ht⟩:∃ t,d.ths[k]? =some t:=⟨_,List.getElem?_eq_getElem (by omega)⟩
  have et:thOf d k=t:=by unfold thOf;rw [List.getD_eq_getElem?_getD,ht];rfl
  by_cases hst:t.st=0
  ·have e3:stepK p d k=(outOf p d k).code:=by unfold stepK;rw [if_pos hw,Int.toNat_natCast,et,if_pos hst]
   have e4:stepS p d k=if (outOf p d k).code=0 then doneS d k (outOf p d k) else d:=by unfold stepS;rw [e3,Int.toNat_natCast]
   rw [e3,e4]
   by_cases hfu:(insOf p d k).o=10∧d.tr.length=4000
   ·have e5:(outOf p d k).code=3:=by unfold outOf stepO;simp [hfu.1,hfu.2]
    rw [e5,if_neg (show ¬ (3:Int)=0 by decide)]
    exact turn_full p1 p2 a1 a2 lo hi base S p v1 v2 v3 L1 L2 d k t w hP hB hO hS hbs hb hR hSb ht hst hfu
   ·exact turn_run p1 p2 a1 a2 lo hi base S p v1 v2 v3 L1 L2 d k t w hP hB hO hS hbs hb hR hSb ht hst hfu
  ·have e3:stepK p d k=3:=by unfold stepK;rw [if_pos hw,Int.toNat_natCast,et,if_neg hst]
   have e4:stepS p d k=d:=by unfold stepS;rw [e3];rfl
   rw [e3,e4]
   exact turn_over p1 p2 a1 a2 lo hi base S p v1 v2 v3 L1 L2 d k t w hP hB hO hS hbs hb hR hSb ht hst
 ·have e3:stepK p d who=2:=by unfold stepK;rw [if_neg hw]
  have e4:stepS p d who=d:=by unfold stepS;rw [e3];rfl
  rw [e3,e4]
  exact turn_none p1 p2 a1 a2 lo hi base S p v1 v2 v3 L1 L2 d who w hP hB hO hS hbs hb hR hSb hw
end
section
set_option linter.unusedSimpArgs false
set_option linter.unusedVariables false
set_option maxRecDepth 100000
open Go.RowKit Go.Shelf
end
section
set_option linter.unusedSimpArgs false
set_option linter.unusedVariables false
set_option maxRecDepth 100000
open Go.RowKit Go.Shelf
attribute [local go_sem] Oper.semAt_some
end
section
set_option linter.unusedSimpArgs false
set_option linter.unusedVariables false
set_option maxRecDepth 100000
open Go.RowKit
end
section
set_option linter.unusedSimpArgs false
set_option linter.unusedVariables false
set_option maxRecDepth 100000
open Go.RowKit Go.Deep
theorem own_block {w w':World} {base size n:Nat} {e:TypeId} {v:Value} {xs:List Value} (h:w.ownsRow base e size v n xs) (hk:∀ k,base≤k→k < w.heap.size→w'.heap[k]? =w.heap[k]?):w'.ownsRow base e size v n xs:=by
 obtain ⟨h1,h2⟩:=h
 refine ⟨h1,?_⟩
 rcases h2 with h2 | ⟨g,cap,cur,hv,hb,hg,h3⟩
 ·exact .inl h2
 ·have hlt:g < w.heap.size:=by
   apply Classical.byContradiction
   intro hn
   rw [Array.getElem?_eq_none (by omega)] at hg
   cases hg
  exact .inr ⟨g,cap,cur,hv,hb,(hk g hb hlt).trans hg,h3⟩
theorem own_row {w:World} {base n:Nat} {v:Value} {e:TypeId} {size:Nat} {xs:List Value} (h:w.ownsRow base e size v n xs):∀ k,v.ownBlock=some k→base≤k:=by
 intro k hk
 rcases h.2 with ⟨rfl,-⟩ | ⟨g,cap,cur,rfl,hb,-⟩
 ·cases hk
 ·simp [Value.ownBlock] at hk
  omega
theorem but_set1 {w0 w:World} {p R i:Nat} {v:Value} (h:But p w0 w) (hR:w0.heap.size≤R):But p w0 (w.setCell ⟨R,i,none⟩ v):=by
 have b:Below w0.heap.size w (w.setCell ⟨R,i,none⟩ v):=(Below.refl _ _).setCell (p:=⟨R,i,none⟩) hR _
 exact ⟨b.os.trans h.os,b.tape.trans h.tape,b.output.trans h.output,Nat.le_trans h.size b.size,fun k hk hp=>(b.block k hk).trans (h.block k hk hp)⟩
theorem info29:∃ i,Tryz.prog.info? 62=some i∧i.zero=some (.slice none 0 0)∧i.size=1∧i.bytes=24:=⟨_,rfl,rfl,rfl,rfl⟩
theorem new1 (w:World) (x:Value) (T:TypeId):∀ j u,[x][j]? =some u→(w.alloc (.cells #[x] T)).cell? (Addr.add ⟨w.heap.size,0,none⟩ j)=some u:=by
 intro j u h
 match j,h with
 | 0,h=>simpa [Addr.add,go_sem] using h
/- the state of a drawn program: the cursor at p, the answer's two cells at R, the program's at R + 1, its rows from R + 2 on -/
structure Pr (w0 w:World) (p:Nat) (s:Option Addr) (n c R:Nat) (v0 v1:Value):Prop where
 cb:CB w p s n c
 but:But p w0 w
 c0:w.cell? ⟨R+1,0,none⟩=some v0
 c1:w.cell? ⟨R+1,1,none⟩=some v1
 fP:∀ j,w.frozen? ⟨R+1,j,none⟩=false
 r0:(w.cell? ⟨R,0,none⟩).isSome=true
 r1:(w.cell? ⟨R,1,none⟩).isSome=true
 fR:∀ j,w.frozen? ⟨R,j,none⟩=false
 lt:R+1 < w.heap.size
 pR:p < R
 old:w0.heap.size≤R
theorem Pr.step {w0 w w':World} {p n c R:Nat} {s:Option Addr} {v0 v1:Value} (h:Pr w0 w p s n c R v0 v1) (hc:CB w' p s n c) (hb:But p w w'):Pr w0 w' p s n c R v0 v1:=by
 have h1:=h.lt
 have h2:=h.pR
 have h3:=hb.size
 exact ⟨hc,h.but.trans hb,(hb.cell (p:=⟨R+1,0,none⟩) h1 (by show R+1≠p;omega)).trans h.c0,(hb.cell (p:=⟨R+1,1,none⟩) h1 (by show R+1≠p;omega)).trans h.c1,fun j=>(hb.frozen (p:=⟨R+1,j,none⟩) h1 (by show R+1≠p;omega)).trans (h.fP j),
  by rw [hb.cell (p:=⟨R,0,none⟩) (by show R < _;omega) (by show R≠p;omega)];exact h.r0,by rw [hb.cell (p:=⟨R,1,none⟩) (by show R < _;omega) (by show R≠p;omega)];exact h.r1,fun j=>(hb.frozen (p:=⟨R,j,none⟩) (by show R < _;omega) (by show R≠p;omega)).trans (h.fR j),by omega,h.pR,h.old⟩
theorem Pr.grown {w0 w w':World} {p n c R:Nat} {s:Option Addr} {v0 v1:Value} {row:Option Nat} (h:Pr w0 w p s n c R v0 v1) (hg:w.grownBy w' row) (hr:∀ k,row=some k→R+2≤k):Pr w0 w' p s n c R v0 v1:=by
 have h1:=h.lt
 have h2:=h.pR
 have h4:=h.old
 have h3:=hg.size
 have hk:∀ k,k < R+2→w'.heap[k]? =w.heap[k]? :=fun k hk=>hg.block k (by omega) (fun e=>by have:=hr k e.symm;omega)
 have cl:∀ k j,k < R+2→w'.cell? ⟨k,j,none⟩=w.cell? ⟨k,j,none⟩:=fun k j h=>World.cell?_of_block (w:=w) (hk k h)
 have fz:∀ k j,k < R+2→w'.frozen? ⟨k,j,none⟩=w.frozen? ⟨k,j,none⟩:=fun k j h=>World.frozen?_of_block (w:=w) (hk k h)
 exact ⟨h.cb.grown hg (fun k e=>by have:=hr k e;omega),h.but.grown hg (fun k e=>by have:=hr k e;omega),(cl _ _ (by omega)).trans h.c0,(cl _ _ (by omega)).trans h.c1,fun j=>(fz _ _ (by omega)).trans (h.fP j),by rw [cl _ _ (by omega)];exact h.r0,by rw [cl _ _ (by omega)];exact h.r1,fun j=>(fz _ _ (by omega)).trans (h.fR j),by omega,h.pR,h.old⟩
theorem Pr.alloc {w0 w:World} {p n c R:Nat} {s:Option Addr} {v0 v1:Value} (h:Pr w0 w p s n c R v0 v1) (o:Obj):Pr w0 (w.alloc o) p s n c R v0 v1:=h.step (h.cb.alloc o) ((But.refl _ _).alloc o)
theorem Pr.drew {w0 w:World} {p n c R:Nat} {s:Option Addr} {v0 v1:Value} (h:Pr w0 w p s n c R v0 v1):Pr w0 w.drew p s n c R v0 v1:=h.step (h.cb.keep (Below.drew (Below.refl _ _))) (But.of_below (Below.drew (Below.refl _ _)))
theorem prCellAt {w:World} {g i:Nat} {v:Value} (h:(w.cell? ⟨g,i,none⟩).isSome=true):(w.setCell ⟨g,i,none⟩ v).cell? ⟨g,i,none⟩=some v:=World.cell?_setCell_same' w _ v h
theorem prCellOff {w:World} {g g' i j:Nat} {v:Value} (h:g≠g'∨i≠j):(w.setCell ⟨g,i,none⟩ v).cell? ⟨g',j,none⟩=w.cell? ⟨g',j,none⟩:=by
 apply World.cell?_setCell_other
 intro e
 injection e with e1 e2
 rcases h with h | h
 ·exact h e1
 ·exact h e2
theorem Pr.set0 {w0 w:World} {p n c R:Nat} {s:Option Addr} {v0 v1:Value} (h:Pr w0 w p s n c R v0 v1) (v:Value):Pr w0 (w.setCell ⟨R+1,0,none⟩ v) p s n c R v v1:=by
 have h2:=h.pR
 have h4:=h.old
 exact ⟨h.cb.set (by show p < R+1;omega),but_set1 h.but (by omega),prCellAt (by rw [h.c0];rfl),(prCellOff (by omega)).trans h.c1,fun j=>by rw [World.frozen?_setCell];exact h.fP j,by rw [prCellOff (by omega)];exact h.r0,by rw [prCellOff (by omega)];exact h.r1,fun j=>by rw [World.frozen?_setCell];exact h.fR j,by simpa using h.lt,h.pR,h.old⟩
theorem Pr.set1 {w0 w:World} {p n c R:Nat} {s:Option Addr} {v0 v1:Value} (h:Pr w0 w p s n c R v0 v1) (v:Value):Pr w0 (w.setCell ⟨R+1,1,none⟩ v) p s n c R v0 v:=by
 have h2:=h.pR
 have h4:=h.old
 exact ⟨h.cb.set (by show p < R+1;omega),but_set1 h.but (by omega),(prCellOff (by omega)).trans h.c0,prCellAt (by rw [h.c1];rfl),fun j=>by rw [World.frozen?_setCell];exact h.fP j,by rw [prCellOff (by omega)];exact h.r0,by rw [prCellOff (by omega)];exact h.r1,fun j=>by rw [World.frozen?_setCell];exact h.fR j,by simpa using h.lt,h.pR,h.old⟩
theorem pr_new (w:World) (p n c:Nat) (s:Option Addr) (v0 v1 u0 u1:Value) (T T':TypeId) (h:CB w p s n c):Pr w ((w.alloc (.cells #[u0,u1] T)).alloc (.cells #[v0,v1] T')) p s n c w.heap.size v0 v1:=
 ⟨(h.alloc _).alloc _,((But.refl _ _).alloc _).alloc _,by simp [go_sem],by simp [go_sem],fun j=>by simp [go_sem],by simp [go_sem],by simp [go_sem],fun j=>by simp [go_sem],by simp,h.lt,Nat.le_refl _⟩
theorem own_mono {w:World} {base base' size n:Nat} {e:TypeId} {v:Value} {xs:List Value} (h:w.ownsRow base e size v n xs) (hb:base'≤base):w.ownsRow base' e size v n xs:=by
 obtain ⟨h1,h2⟩:=h
 refine ⟨h1,?_⟩
 rcases h2 with h2 | ⟨g,cap,cur,hv,hb',hr⟩
 ·exact .inl h2
 ·exact .inr ⟨g,cap,cur,hv,by omega,hr⟩
theorem own_sl {w:World} {base size n:Nat} {e:TypeId} {v:Value} {xs:List Value} (h:w.ownsRow base e size v n xs):∃ (s:Option Addr) (c:Nat),v=.slice s n c:=by
 rcases h.2 with ⟨rfl,rfl⟩ | ⟨g,cap,cur,rfl,-⟩
 ·exact ⟨none,0,rfl⟩
 ·exact ⟨_,_,rfl⟩
/- a call of a Go function, as a step of a region that draws its order -/
theorem step_call {ops : Array Oper} {o : Oper} {a : Act} {w : World} {K : Act → World → Prop} {Q : Exit → Act → World → Prop} {F : Prop} (f : FuncId) (args : Array Value) (hgd : o.guard = none) (xs : Array Operand) (ats : Array TypeId) (ho : o.op = .call { callee := .value (.func f), args := xs, argTypes := ats }) (hx : xs.map a.eval = args)
  (hent:∀ (args:Array Value) (w:World),(callFunc f args).run Tryz.prog w=.ok (.enter f args) w) (h:Calls Tryz.prog f args w fun e w'=>∃ v,e=.returned v∧K (a.put o.dst v) w'):
  if Region.wanted o (yielded ops a.tmps)=true then Oper.wp Tryz.prog o a w K Q else F:=by
 have hw:Region.wanted o (yielded ops a.tmps)=true:=by simp [Region.wanted,hgd]
 rw [if_pos hw]
 obtain ⟨dst,op,ty,pos,after,guard⟩:=o
 simp only at ho
 subst ho
 unfold Oper.wp
 rw [execOp_call_go]
 have e:(#[]++xs.map a.eval++#[])=args:=by rw [hx];simp
 rw [e,hent,Oper.upon_enter]
 refine h.mono ?_
 rintro e w' ⟨v,rfl,hk⟩
 exact hk
theorem ent_below (args:Array Value) (w:World):(callFunc 25 args).run Tryz.prog w=.ok (.enter 25 args) w:=by kernel_rfl
theorem ent_body (args:Array Value) (w:World):(callFunc 82 args).run Tryz.prog w=.ok (.enter 82 args) w:=by kernel_rfl
theorem OwnB.growL {w w' : World} {base g cap : Nat} {v u : Value} {bs : List (List I5)} {xs : List Value} (h1 : w.ownsRow base 62 1 v bs.length xs) (h2 : ∀ i, i < bs.length → OwnP w base (xs.getD i undef) (bs.getD i []))
  (h3:∀ i j k,i < bs.length→j < bs.length→i≠j→(xs.getD i undef).ownBlock=some k→(xs.getD j undef).ownBlock≠some k) (hu:u.ownBlock=none∨∃ k,u.ownBlock=some k∧w.heap.size≤k)
  (q1:w'.ownsRow base 62 1 (.slice (some ⟨g,0,none⟩) (bs.length+1) cap) (bs.length+1) (xs++[u])) (hk:∀ k,base≤k→k < w.heap.size→v.ownBlock≠some k→w'.heap[k]? =w.heap[k]?) (L:List I5) (hP:OwnP w' base u L):
  OwnB w' base (.slice (some ⟨g,0,none⟩) (bs.length+1) cap) (bs++[L]):=by
 have hxl:xs.length=bs.length:=by have:=h1.1;omega
 refine ⟨xs++[u],by rw [List.length_append];exact q1,?_,?_⟩
 ·intro i hi
  rw [getD_snoc,getD_snoc,hxl]
  by_cases e:i < bs.length
  ·rw [if_pos e,if_pos e]
   exact ownKeep (h2 i e) (fun k hk'=>hk k (World.ownsRow.lt (h2 i e) _ hk').1 (World.ownsRow.lt (h2 i e) _ hk').2 (ownType (h2 i e) h1 (by decide) hk'))
  ·have:i=bs.length:=by simp at hi;omega
   rw [if_neg e,if_pos this,if_neg e,if_pos this]
   exact hP
 ·intro i j k hi hj hne
  simp only [List.length_append,List.length_cons,List.length_nil] at hi hj
  rw [getD_snoc,getD_snoc,hxl]
  by_cases e:i < bs.length<;>by_cases e':j < bs.length
  ·rw [if_pos e,if_pos e'];exact h3 i j k e e' hne
  ·rw [if_pos e,if_neg e',if_pos (by omega)]
   intro hk' hk''
   have:=(World.ownsRow.lt (h2 i e) _ hk').2
   rcases hu with hu | ⟨k',hu,hk2⟩
   ·rw [hu] at hk'';cases hk''
   ·rw [hu] at hk'';injection hk'' with hk'';omega
  ·rw [if_neg e,if_pos (by omega),if_pos e']
   intro hk' hk''
   have:=(World.ownsRow.lt (h2 j e') _ hk'').2
   rcases hu with hu | ⟨k',hu,hk2⟩
   ·rw [hu] at hk';cases hk'
   ·rw [hu] at hk';injection hk' with hk';omega
  ·omega
theorem infoZ:∃ i,Tryz.prog.info? 3=some i∧i.zero=some (.int .i64 0)∧i.size=1∧i.bytes=8:=⟨_,rfl,rfl,rfl,rfl⟩
theorem app_capsV {ops : Array Oper} {o : Oper} {a : Act} {K : Act → World → Prop} {Q : Exit → Act → World → Prop} {F : Prop} (hgd : o.guard = none) (s x : Operand) (ho : o.op = .call { callee := .builtin .append, args := #[s, x], argTypes := #[24, 24] })
  (w:World) (z:Int) (base:Nat) (l:List Int) (v:Value) (hs:a.eval s=v) (hown:OwnN w base v l) (hx:a.eval x=.slice (some ⟨w.heap.size,0,none⟩) 1 1) (hn:l.length≤1000) (hbase:base≤w.heap.size)
  (h:∀ g cap w',OwnN w' base (.slice (some ⟨g,0,none⟩) (l.length+1) cap) (l++[z])→(w.alloc (.cells #[.int .i64 z] 3)).grownBy w' v.ownBlock→(∀ k,v.ownBlock=some k→base≤k)→K (a.put o.dst (.slice (some ⟨g,0,none⟩) (l.length+1) cap)) w'):
  if Region.wanted o (yielded ops a.tmps)=true then Oper.wp Tryz.prog o a (w.alloc (.cells #[.int .i64 z] 3)) K Q else F:=by
 obtain ⟨i0,hi,hz0,hz1,hz2⟩:=infoZ
 have h1':=own_block (w':=w.alloc (.cells #[.int .i64 z] 3)) hown (fun k _ hk=>Below.heap_alloc _ _ _ hk)
 refine step_append_lies _ hgd s x 24 ho base 3 i0 _ 1 8 Tryz.underlying24 hi hz0 hz1 hz2 rfl (by decide) v l.length _ hs h1' ⟨w.heap.size,0,none⟩ 1 1 [.int .i64 z] hx rfl (new1 w _ _) (fun u hu=>by simp at hu;subst hu;rfl) (by decide) (by unfold maxLen;omega) (by omega) (by simp;omega) _ rfl ?_
 intro g cap w' q1 q2 q3 q4
 refine h g cap w' ?_ q2 (own_row hown)
 show w'.ownsRow base 3 1 _ (l++[z]).length ((l++[z]).map (Value.int .i64))
 rw [List.length_append,List.map_append]
 exact q1
theorem app_bodsV {ops : Array Oper} {o : Oper} {a : Act} {K : Act → World → Prop} {Q : Exit → Act → World → Prop} {F : Prop} (hgd : o.guard = none) (s x : Operand) (ho : o.op = .call { callee := .builtin .append, args := #[s, x], argTypes := #[25, 25] })
  (w2 w:World) (y:Value) (L:List I5) (base p:Nat) (bs:List (List I5)) (v:Value) (hs:a.eval s=v) (hown:OwnB w2 base v bs) (hb:But p w2 w) (hp:p < base) (hy:OwnP w w2.heap.size y L) (hx:a.eval x=.slice (some ⟨w.heap.size,0,none⟩) 1 1) (hn:bs.length≤1000) (hbase:base≤w2.heap.size)
  (h:∀ g cap w',OwnB w' base (.slice (some ⟨g,0,none⟩) (bs.length+1) cap) (bs++[L])→(w.alloc (.cells #[y] 62)).grownBy w' v.ownBlock→(∀ k,v.ownBlock=some k→base≤k∧k < w2.heap.size)→(∀ k,v.ownBlock=some k→∃ cs f,w2.heap[k]? =some (.cells cs 62 f))→K (a.put o.dst (.slice (some ⟨g,0,none⟩) (bs.length+1) cap)) w'):
  if Region.wanted o (yielded ops a.tmps)=true then Oper.wp Tryz.prog o a (w.alloc (.cells #[y] 62)) K Q else F:=by
 obtain ⟨i0,hi,hz0,hz1,hz2⟩:=info29
 obtain ⟨xs,h1,h2,h3⟩:=hown
 have h1':=own_block (w':=w.alloc (.cells #[y] 62)) h1 (fun k hk1 hk=>(Below.heap_alloc _ _ _ (Nat.lt_of_lt_of_le hk hb.size)).trans (hb.block k hk (by omega)))
 have hone:y.oneCell'=true:=by
  obtain ⟨-,q⟩:=hy
  rcases q with ⟨rfl,-⟩ | ⟨g,cap,cur,rfl,-⟩<;>rfl
 refine step_append_lies _ hgd s x 25 ho base 62 i0 _ 1 24 Tryz.underlying25 hi hz0 hz1 hz2 rfl (by decide) v bs.length xs hs h1' ⟨w.heap.size,0,none⟩ 1 1 [y] hx rfl (new1 w _ _) (fun u hu=>by simp at hu;subst hu;exact hone) (by decide) (by unfold maxLen;omega) (by omega) (by simp;have:=hb.size;omega) _ rfl ?_
 intro g cap w' q1 q2 q3 q4
 have hyb:∀ k,y.ownBlock=some k→w2.heap.size≤k∧k < w.heap.size:=fun k hk=>World.ownsRow.lt hy _ hk
 have hvb:∀ k,v.ownBlock=some k→base≤k∧k < w2.heap.size:=fun k hk=>World.ownsRow.lt h1 _ hk
 refine h g cap w' (OwnB.growL h1 h2 h3 ?_ q1 ?_ L ?_) q2 hvb ?_
 ·cases hyo:y.ownBlock with
  | none=>exact .inl rfl
  | some k=>exact .inr ⟨k,rfl,(hyb k hyo).1⟩
 ·intro k hk1 hk2 hk3
  exact (q2.block k (by simp;have:=hb.size;omega) (fun e=>hk3 e.symm)).trans ((Below.heap_alloc _ _ _ (Nat.lt_of_lt_of_le hk2 hb.size)).trans (hb.block k hk2 (by omega)))
 ·refine own_mono (ownKeep hy (fun k hk=>?_)) hbase
  have:=hyb k hk
  exact (q2.block k (by simp;omega) (fun e=>by have:=hvb k e.symm;omega)).trans (Below.heap_alloc _ _ _ this.2)
 ·intro k hk
  obtain ⟨-,q⟩:=h1
  rcases q with ⟨rfl,-⟩ | ⟨g',cap',cur,rfl,-,hc,-⟩
  ·cases hk
  ·simp [Value.ownBlock] at hk
   subst hk
   exact ⟨_,_,hc⟩
end
end Go.Proofs.YtknffngbdakblaaGreat
