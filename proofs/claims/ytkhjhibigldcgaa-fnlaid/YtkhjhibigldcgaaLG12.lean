/- l1DrawRight: a program that is right is drawn into new memory, with what it has; the cursor's own block alone is turned. Conditions: the cursor and its bytes lie in memory as the reading says. l1DrawRight: the program that is drawn is right, and is owned with what it has; the cursor's own block alone is turned. Conditions: the cursor and its bytes lie in memory as the reading says. New cores put behind a row of them, and new machines. Conditions: fewer than 2^30 of them. CodeOk of the specification, at every list of at most 1048576 steps. -/
import Derived.Test.YtkhjhibigldcgaaLG00
import Derived.Test.YtkhjhibigldcgaaLG06
import Derived.Test.YtkhjhibigldcgaaLDraw1
import Derived.Test.YtkhjhibigldcgaaLG08
import Derived.Test.YtkhjhibigldcgaaLDrawBodyR
import Derived.Test.YtkhjhibigldcgaaLG07
import Derived.Deep.RegionLaw
import Derived.Test.YtkhjhibigldcgaaLG09
import Derived.Test.YtkhjhibigldcgaaLG02
import Derived.Test.YtkhjhibigldcgaaLG03
import Derived.Test.YtkhjhibigldcgaaLSpecIns
import Derived.Test.YtkhjhibigldcgaaLC7SpA
namespace Go.Proofs.Ytkhjhibigldcgaa
section
set_option linter.unusedSimpArgs false
set_option linter.unusedVariables false
set_option maxRecDepth 100000
open Go.RowKit Go.Deep
theorem own_block {w w':World} {base size n:Nat} {e:TypeId} {v:Value} {xs:List Value} (h:w.ownsRow base e size v n xs) (hk:∀ k,base≤k→k < w.heap.size→w'.heap[k]? =w.heap[k]?):w'.ownsRow base e size v n xs:=by
 obtain ⟨h1,h2⟩:=h
 refine ⟨h1,?_⟩
 rcases h2 with h2 | ⟨g,cap,cur,hv,hb,hg,h3⟩
 ·exact .inl h2
 ·have hlt:g < w.heap.size:=by
   apply Classical.byContradiction
   intro hn
   rw [Array.getElem?_eq_none (by omega)] at hg
   cases hg
  exact .inr ⟨g,cap,cur,hv,hb,(hk g hb hlt).trans hg,h3⟩
theorem own_row {w:World} {base n:Nat} {v:Value} {e:TypeId} {size:Nat} {xs:List Value} (h:w.ownsRow base e size v n xs):∀ k,v.ownBlock=some k→base≤k:=by
 intro k hk
 rcases h.2 with ⟨rfl,-⟩ | ⟨g,cap,cur,rfl,hb,-⟩
 ·cases hk
 ·simp [Value.ownBlock] at hk
  omega
theorem but_set1 {w0 w:World} {p R i:Nat} {v:Value} (h:But p w0 w) (hR:w0.heap.size≤R):But p w0 (w.setCell ⟨R,i,none⟩ v):=by
 have b:Below w0.heap.size w (w.setCell ⟨R,i,none⟩ v):=(Below.refl _ _).setCell (p:=⟨R,i,none⟩) hR _
 exact ⟨b.os.trans h.os,b.tape.trans h.tape,b.output.trans h.output,Nat.le_trans h.size b.size,fun k hk hp=>(b.block k hk).trans (h.block k hk hp)⟩
theorem info29:∃ i,Try.prog.info? 86=some i∧i.zero=some (.slice none 0 0)∧i.size=1∧i.bytes=24:=⟨_,rfl,rfl,rfl,rfl⟩
theorem new1 (w:World) (x:Value) (T:TypeId):∀ j u,[x][j]? =some u→(w.alloc (.cells #[x] T)).cell? (Addr.add ⟨w.heap.size,0,none⟩ j)=some u:=by
 intro j u h
 match j,h with
 | 0,h=>simpa [Addr.add,go_sem] using h
/- the state of a drawn program: the cursor at p, the answer's two cells at R, the program's at R + 1, its rows from R + 2 on -/
structure Pr (w0 w:World) (p:Nat) (s:Option Addr) (n c R:Nat) (v0 v1:Value):Prop where
 cb:CBx158 w p s n c
 but:But p w0 w
 c0:w.cell? ⟨R+1,0,none⟩=some v0
 c1:w.cell? ⟨R+1,1,none⟩=some v1
 fP:∀ j,w.frozen? ⟨R+1,j,none⟩=false
 r0:(w.cell? ⟨R,0,none⟩).isSome=true
 r1:(w.cell? ⟨R,1,none⟩).isSome=true
 fR:∀ j,w.frozen? ⟨R,j,none⟩=false
 lt:R+1 < w.heap.size
 pR:p < R
 old:w0.heap.size≤R
theorem Pr.step {w0 w w':World} {p n c R:Nat} {s:Option Addr} {v0 v1:Value} (h:Pr w0 w p s n c R v0 v1) (hc:CBx158 w' p s n c) (hb:But p w w'):Pr w0 w' p s n c R v0 v1:=by
 have h1:=h.lt
 have h2:=h.pR
 have h3:=hb.size
 exact ⟨hc,h.but.trans hb,(hb.cell (p:=⟨R+1,0,none⟩) h1 (by show R+1≠p;omega)).trans h.c0,(hb.cell (p:=⟨R+1,1,none⟩) h1 (by show R+1≠p;omega)).trans h.c1,fun j=>(hb.frozen (p:=⟨R+1,j,none⟩) h1 (by show R+1≠p;omega)).trans (h.fP j),
  by rw [hb.cell (p:=⟨R,0,none⟩) (by show R < _;omega) (by show R≠p;omega)];exact h.r0,by rw [hb.cell (p:=⟨R,1,none⟩) (by show R < _;omega) (by show R≠p;omega)];exact h.r1,fun j=>(hb.frozen (p:=⟨R,j,none⟩) (by show R < _;omega) (by show R≠p;omega)).trans (h.fR j),by omega,h.pR,h.old⟩
theorem Pr.grown {w0 w w':World} {p n c R:Nat} {s:Option Addr} {v0 v1:Value} {row:Option Nat} (h:Pr w0 w p s n c R v0 v1) (hg:w.grownBy w' row) (hr:∀ k,row=some k→R+2≤k):Pr w0 w' p s n c R v0 v1:=by
 have h1:=h.lt
 have h2:=h.pR
 have h4:=h.old
 have h3:=hg.size
 have hk:∀ k,k < R+2→w'.heap[k]? =w.heap[k]? :=fun k hk=>hg.block k (by omega) (fun e=>by have:=hr k e.symm;omega)
 have cl:∀ k j,k < R+2→w'.cell? ⟨k,j,none⟩=w.cell? ⟨k,j,none⟩:=fun k j h=>World.cell?_of_block (w:=w) (hk k h)
 have fz:∀ k j,k < R+2→w'.frozen? ⟨k,j,none⟩=w.frozen? ⟨k,j,none⟩:=fun k j h=>World.frozen?_of_block (w:=w) (hk k h)
 exact ⟨h.cb.grown hg (fun k e=>by have:=hr k e;omega),h.but.grown hg (fun k e=>by have:=hr k e;omega),(cl _ _ (by omega)).trans h.c0,(cl _ _ (by omega)).trans h.c1,fun j=>(fz _ _ (by omega)).trans (h.fP j),by rw [cl _ _ (by omega)];exact h.r0,by rw [cl _ _ (by omega)];exact h.r1,fun j=>(fz _ _ (by omega)).trans (h.fR j),by omega,h.pR,h.old⟩
theorem Pr.alloc {w0 w:World} {p n c R:Nat} {s:Option Addr} {v0 v1:Value} (h:Pr w0 w p s n c R v0 v1) (o:Obj):Pr w0 (w.alloc o) p s n c R v0 v1:=h.step (h.cb.alloc o) ((But.refl _ _).alloc o)
theorem Pr.drew {w0 w:World} {p n c R:Nat} {s:Option Addr} {v0 v1:Value} (h:Pr w0 w p s n c R v0 v1):Pr w0 w.drew p s n c R v0 v1:=h.step (h.cb.keep (Below.drew (Below.refl _ _))) (But.of_below (Below.drew (Below.refl _ _)))
theorem prCellAt {w:World} {g i:Nat} {v:Value} (h:(w.cell? ⟨g,i,none⟩).isSome=true):(w.setCell ⟨g,i,none⟩ v).cell? ⟨g,i,none⟩=some v:=World.cell?_setCell_same' w _ v h
theorem prCellOff {w:World} {g g' i j:Nat} {v:Value} (h:g≠g'∨i≠j):(w.setCell ⟨g,i,none⟩ v).cell? ⟨g',j,none⟩=w.cell? ⟨g',j,none⟩:=by
 apply World.cell?_setCell_other
 intro e
 injection e with e1 e2
 rcases h with h | h
 ·exact h e1
 ·exact h e2
theorem Pr.set0 {w0 w:World} {p n c R:Nat} {s:Option Addr} {v0 v1:Value} (h:Pr w0 w p s n c R v0 v1) (v:Value):Pr w0 (w.setCell ⟨R+1,0,none⟩ v) p s n c R v v1:=by
 have h2:=h.pR
 have h4:=h.old
 exact ⟨h.cb.set (by show p < R+1;omega),but_set1 h.but (by omega),prCellAt (by rw [h.c0];rfl),(prCellOff (by omega)).trans h.c1,fun j=>by rw [World.frozen?_setCell];exact h.fP j,by rw [prCellOff (by omega)];exact h.r0,by rw [prCellOff (by omega)];exact h.r1,fun j=>by rw [World.frozen?_setCell];exact h.fR j,by simpa using h.lt,h.pR,h.old⟩
theorem Pr.set1 {w0 w:World} {p n c R:Nat} {s:Option Addr} {v0 v1:Value} (h:Pr w0 w p s n c R v0 v1) (v:Value):Pr w0 (w.setCell ⟨R+1,1,none⟩ v) p s n c R v0 v:=by
 have h2:=h.pR
 have h4:=h.old
 exact ⟨h.cb.set (by show p < R+1;omega),but_set1 h.but (by omega),(prCellOff (by omega)).trans h.c0,prCellAt (by rw [h.c1];rfl),fun j=>by rw [World.frozen?_setCell];exact h.fP j,by rw [prCellOff (by omega)];exact h.r0,by rw [prCellOff (by omega)];exact h.r1,fun j=>by rw [World.frozen?_setCell];exact h.fR j,by simpa using h.lt,h.pR,h.old⟩
theorem pr_new (w:World) (p n c:Nat) (s:Option Addr) (v0 v1 u0 u1:Value) (T T':TypeId) (h:CBx158 w p s n c):Pr w ((w.alloc (.cells #[u0,u1] T)).alloc (.cells #[v0,v1] T')) p s n c w.heap.size v0 v1:=
 ⟨(h.alloc _).alloc _,((But.refl _ _).alloc _).alloc _,by simp [go_sem],by simp [go_sem],fun j=>by simp [go_sem],by simp [go_sem],by simp [go_sem],fun j=>by simp [go_sem],by simp,h.lt,Nat.le_refl _⟩
theorem own_mono {w:World} {base base' size n:Nat} {e:TypeId} {v:Value} {xs:List Value} (h:w.ownsRow base e size v n xs) (hb:base'≤base):w.ownsRow base' e size v n xs:=by
 obtain ⟨h1,h2⟩:=h
 refine ⟨h1,?_⟩
 rcases h2 with h2 | ⟨g,cap,cur,hv,hb',hr⟩
 ·exact .inl h2
 ·exact .inr ⟨g,cap,cur,hv,by omega,hr⟩
theorem own_sl {w:World} {base size n:Nat} {e:TypeId} {v:Value} {xs:List Value} (h:w.ownsRow base e size v n xs):∃ (s:Option Addr) (c:Nat),v=.slice s n c:=by
 rcases h.2 with ⟨rfl,rfl⟩ | ⟨g,cap,cur,rfl,-⟩
 ·exact ⟨none,0,rfl⟩
 ·exact ⟨_,_,rfl⟩
theorem ent_below (args:Array Value) (w:World):(callFunc 17 args).run Try.prog w=.ok (.enter 17 args) w:=by kernel_rfl
theorem ent_body (args:Array Value) (w:World):(callFunc 46 args).run Try.prog w=.ok (.enter 46 args) w:=by kernel_rfl
theorem OwnB.growL {w w' : World} {base g cap : Nat} {v u : Value} {bs : List (List I5)} {xs : List Value} (h1 : w.ownsRow base 86 1 v bs.length xs) (h2 : ∀ i, i < bs.length → OwnP w base (xs.getD i undef) (bs.getD i []))
  (h3:∀ i j k,i < bs.length→j < bs.length→i≠j→(xs.getD i undef).ownBlock=some k→(xs.getD j undef).ownBlock≠some k) (hu:u.ownBlock=none∨∃ k,u.ownBlock=some k∧w.heap.size≤k)
  (q1:w'.ownsRow base 86 1 (.slice (some ⟨g,0,none⟩) (bs.length+1) cap) (bs.length+1) (xs++[u])) (hk:∀ k,base≤k→k < w.heap.size→v.ownBlock≠some k→w'.heap[k]? =w.heap[k]?) (L:List I5) (hP:OwnP w' base u L):
  OwnB w' base (.slice (some ⟨g,0,none⟩) (bs.length+1) cap) (bs++[L]):=by
 have hxl:xs.length=bs.length:=by have:=h1.1;omega
 refine ⟨xs++[u],by rw [List.length_append];exact q1,?_,?_⟩
 ·intro i hi
  rw [getD_snoc,getD_snoc,hxl]
  by_cases e:i < bs.length
  ·rw [if_pos e,if_pos e]
   exact ownKeep (h2 i e) (fun k hk'=>hk k (World.ownsRow.lt (h2 i e) _ hk').1 (World.ownsRow.lt (h2 i e) _ hk').2 (ownType (h2 i e) h1 (by decide) hk'))
  ·have:i=bs.length:=by simp at hi;omega
   rw [if_neg e,if_pos this,if_neg e,if_pos this]
   exact hP
 ·intro i j k hi hj hne
  simp only [List.length_append,List.length_cons,List.length_nil] at hi hj
  rw [getD_snoc,getD_snoc,hxl]
  by_cases e:i < bs.length<;>by_cases e':j < bs.length
  ·rw [if_pos e,if_pos e'];exact h3 i j k e e' hne
  ·rw [if_pos e,if_neg e',if_pos (by omega)]
   intro hk' hk''
   have:=(World.ownsRow.lt (h2 i e) _ hk').2
   rcases hu with hu | ⟨k',hu,hk2⟩
   ·rw [hu] at hk'';cases hk''
   ·rw [hu] at hk'';injection hk'' with hk'';omega
  ·rw [if_neg e,if_pos (by omega),if_pos e']
   intro hk' hk''
   have:=(World.ownsRow.lt (h2 j e') _ hk'').2
   rcases hu with hu | ⟨k',hu,hk2⟩
   ·rw [hu] at hk';cases hk'
   ·rw [hu] at hk';injection hk' with hk';omega
  ·omega
theorem infoZ:∃ i,Try.prog.info? 3=some i∧i.zero=some (.int .i64 0)∧i.size=1∧i.bytes=8:=⟨_,rfl,rfl,rfl,rfl⟩
theorem app_capsV {ops : Array Oper} {o : Oper} {a : Act} {K : Act → World → Prop} {Q : Exit → Act → World → Prop} {F : Prop} (hgd : o.guard = none) (s x : Operand) (ho : o.op = .call { callee := .builtin .append, args := #[s, x], argTypes := #[24, 24] })
  (w:World) (z:Int) (base:Nat) (l:List Int) (v:Value) (hs:a.eval s=v) (hown:OwnN w base v l) (hx:a.eval x=.slice (some ⟨w.heap.size,0,none⟩) 1 1) (hn:l.length≤1000) (hbase:base≤w.heap.size)
  (h:∀ g cap w',OwnN w' base (.slice (some ⟨g,0,none⟩) (l.length+1) cap) (l++[z])→(w.alloc (.cells #[.int .i64 z] 3)).grownBy w' v.ownBlock→(∀ k,v.ownBlock=some k→base≤k)→K (a.put o.dst (.slice (some ⟨g,0,none⟩) (l.length+1) cap)) w'):
  if Region.wanted o (yielded ops a.tmps)=true then Oper.wp Try.prog o a (w.alloc (.cells #[.int .i64 z] 3)) K Q else F:=by
 obtain ⟨i0,hi,hz0,hz1,hz2⟩:=infoZ
 have h1':=own_block (w':=w.alloc (.cells #[.int .i64 z] 3)) hown (fun k _ hk=>Below.heap_alloc _ _ _ hk)
 refine step_append_lies _ hgd s x 24 ho base 3 i0 _ 1 8 Try.underlying24 hi hz0 hz1 hz2 rfl (by decide) v l.length _ hs h1' ⟨w.heap.size,0,none⟩ 1 1 [.int .i64 z] hx rfl (new1 w _ _) (fun u hu=>by simp at hu;subst hu;rfl) (by decide) (by unfold maxLen;omega) (by omega) (by simp;omega) _ rfl ?_
 intro g cap w' q1 q2 q3 q4
 refine h g cap w' ?_ q2 (own_row hown)
 show w'.ownsRow base 3 1 _ (l++[z]).length ((l++[z]).map (Value.int .i64))
 rw [List.length_append,List.map_append]
 exact q1
theorem app_bodsV {ops : Array Oper} {o : Oper} {a : Act} {K : Act → World → Prop} {Q : Exit → Act → World → Prop} {F : Prop} (hgd : o.guard = none) (s x : Operand) (ho : o.op = .call { callee := .builtin .append, args := #[s, x], argTypes := #[64, 64] })
  (w2 w:World) (y:Value) (L:List I5) (base p:Nat) (bs:List (List I5)) (v:Value) (hs:a.eval s=v) (hown:OwnB w2 base v bs) (hb:But p w2 w) (hp:p < base) (hy:OwnP w w2.heap.size y L) (hx:a.eval x=.slice (some ⟨w.heap.size,0,none⟩) 1 1) (hn:bs.length≤1000) (hbase:base≤w2.heap.size)
  (h:∀ g cap w',OwnB w' base (.slice (some ⟨g,0,none⟩) (bs.length+1) cap) (bs++[L])→(w.alloc (.cells #[y] 86)).grownBy w' v.ownBlock→(∀ k,v.ownBlock=some k→base≤k∧k < w2.heap.size)→(∀ k,v.ownBlock=some k→∃ cs f,w2.heap[k]? =some (.cells cs 86 f))→K (a.put o.dst (.slice (some ⟨g,0,none⟩) (bs.length+1) cap)) w'):
  if Region.wanted o (yielded ops a.tmps)=true then Oper.wp Try.prog o a (w.alloc (.cells #[y] 86)) K Q else F:=by
 obtain ⟨i0,hi,hz0,hz1,hz2⟩:=info29
 obtain ⟨xs,h1,h2,h3⟩:=hown
 have h1':=own_block (w':=w.alloc (.cells #[y] 86)) h1 (fun k hk1 hk=>(Below.heap_alloc _ _ _ (Nat.lt_of_lt_of_le hk hb.size)).trans (hb.block k hk (by omega)))
 have hone:y.oneCell'=true:=by
  obtain ⟨-,q⟩:=hy
  rcases q with ⟨rfl,-⟩ | ⟨g,cap,cur,rfl,-⟩<;>rfl
 refine step_append_lies _ hgd s x 64 ho base 86 i0 _ 1 24 Try.underlying64 hi hz0 hz1 hz2 rfl (by decide) v bs.length xs hs h1' ⟨w.heap.size,0,none⟩ 1 1 [y] hx rfl (new1 w _ _) (fun u hu=>by simp at hu;subst hu;exact hone) (by decide) (by unfold maxLen;omega) (by omega) (by simp;have:=hb.size;omega) _ rfl ?_
 intro g cap w' q1 q2 q3 q4
 have hyb:∀ k,y.ownBlock=some k→w2.heap.size≤k∧k < w.heap.size:=fun k hk=>World.ownsRow.lt hy _ hk
 have hvb:∀ k,v.ownBlock=some k→base≤k∧k < w2.heap.size:=fun k hk=>World.ownsRow.lt h1 _ hk
 refine h g cap w' (OwnB.growL h1 h2 h3 ?_ q1 ?_ L ?_) q2 hvb ?_
 ·cases hyo:y.ownBlock with
  | none=>exact .inl rfl
  | some k=>exact .inr ⟨k,rfl,(hyb k hyo).1⟩
 ·intro k hk1 hk2 hk3
  exact (q2.block k (by simp;have:=hb.size;omega) (fun e=>hk3 e.symm)).trans ((Below.heap_alloc _ _ _ (Nat.lt_of_lt_of_le hk2 hb.size)).trans (hb.block k hk2 (by omega)))
 ·refine own_mono (ownKeep hy (fun k hk=>?_)) hbase
  have:=hyb k hk
  exact (q2.block k (by simp;omega) (fun e=>by have:=hvb k e.symm;omega)).trans (Below.heap_alloc _ _ _ this.2)
 ·intro k hk
  obtain ⟨-,q⟩:=h1
  rcases q with ⟨rfl,-⟩ | ⟨g',cap',cur,rfl,-,hc,-⟩
  ·cases hk
  ·simp [Value.ownBlock] at hk
   subst hk
   exact ⟨_,_,hc⟩
end
section
set_option linter.unusedSimpArgs false
set_option linter.unusedVariables false
set_option maxRecDepth 100000
open Go.RowKit Go.Deep
theorem hidR {p:Prop} (h:p):Hid p:=h
theorem OwnN.kp {w w':World} {base p:Nat} {v:Value} {l:List Int} (h:OwnN w base v l) (hb:But p w w') (hp:p < base):OwnN w' base v l:=own_block h (fun k h1 h2=>hb.block k h2 (by omega))
theorem OwnB.kp {w w':World} {base p:Nat} {v:Value} {l:List (List I5)} (h:OwnB w base v l) (hb:But p w w') (hp:p < base):OwnB w' base v l:=h.keep (fun k h1 h2=>hb.block k h2 (by omega))
theorem OwnN.st {w:World} {base g j:Nat} {v u:Value} {l:List Int} (h:OwnN w base v l) (hg:g < base):OwnN (w.setCell ⟨g,j,none⟩ u) base v l:=own_block h (fun k h1 h2=>Below.heap_setCell w ⟨g,j,none⟩ u k (by show k≠g;omega))
theorem OwnB.st {w:World} {base g j:Nat} {v u:Value} {l:List (List I5)} (h:OwnB w base v l) (hg:g < base):OwnB (w.setCell ⟨g,j,none⟩ u) base v l:=h.keep (fun k h1 h2=>Below.heap_setCell w ⟨g,j,none⟩ u k (by show k≠g;omega))
/- another row grew: rows of integers stay -/
theorem OwnN.far' {w w':World} {base:Nat} {v:Value} {l:List Int} {row:Option Nat} (h:OwnN w base v l) (hg:w.grownBy w' row) (hr:∀ k,row=some k→∃ cs f,w.heap[k]? =some (.cells cs 86 f)):OwnN w' base v l:=by
 refine ownKeep h (fun k hk=>hg.block k (World.ownsRow.lt h _ hk).2 (fun e=>?_))
 obtain ⟨cs,f,hc⟩:=hr k e.symm
 obtain ⟨-,q⟩:=h
 rcases q with ⟨rfl,-⟩ | ⟨g',cap',cur,rfl,-,hc',-⟩
 ·cases hk
 ·simp [Value.ownBlock] at hk
  subst hk
  rw [hc] at hc'
  injection hc' with hc'
  injection hc' with _ e2 _
  exact absurd e2 (by decide)
def CapsOk (l:List Int):Prop:=∀ z∈l,1≤z∧z≤4
def BodsOk (l:List (List I5)) (ch:Int):Prop:=∀ b∈l,bodyB b ch=true∧b.length≤12
set_option maxRecDepth 100000 in
set_option maxHeartbeats 4000000 in
theorem drawRight_ok (p : Nat) (s : Option Addr) (n c : Nat) (w : World) (h : CBx158 w p s n c) :
  Calls Try.prog 37 #[.pointer (some ⟨p,0,none⟩)] w fun e w'=>∃ (v0 v1:Value) (cs:List Int) (bs:List (List I5)),e=.returned (.agg #[v0,v1])∧OwnN w' w.heap.size v0 cs∧OwnB w' w.heap.size v1 bs∧(1≤cs.length∧cs.length≤3)∧(1≤bs.length∧bs.length≤4)∧CapsOk cs∧BodsOk bs cs.length∧CBx158 w' p s n c∧But p w w':=by
 have hp:=h.lt
 have H0:Hid (Pr w ((w.alloc (.cells #[.slice none 0 0,.slice none 0 0] 66)).alloc (.cells #[.slice none 0 0,.slice none 0 0] 66)) p s n c w.heap.size (.slice none 0 0) (.slice none 0 0)):=pr_new w p n c s _ _ _ _ _ _ h
 clear h
 go_enter Try.func37,Try.ntmps37
 go_wp2_with fail
 refine (below_cb p s n c 3 _ H0.out.cb (by omega) (by omega)).mono ?_
 rintro e w1 ⟨x,rfl,x0,x1,hc1,hb1⟩
 have H1:Hid (Pr w w1 p s n c w.heap.size (.slice none 0 0) (.slice none 0 0)):=H0.out.step hc1 hb1
 clear hc1 hb1 H0
 go_wp2
 go_loopw [5] (fun i wr=>∃ (l:List Int) (v0:Value),(l.length:Int)≤1+x∧i=.int .i64 l.length∧Pr w wr p s n c w.heap.size v0 (.slice none 0 0)∧OwnN wr (w.heap.size+2) v0 l∧CapsOk l) (fun i _=>4 - (intOf i).toNat)
 case atStart=>exact ⟨[],_,by simp;omega,rfl,H1.out,World.ownsRow_nil _ _ _ _,fun z hz=>by cases hz⟩
 case round=>
  obtain ⟨l,v0,hj,rfl,hpr,how,hco⟩:=hrel
  have HP:=hidR hpr
  have HW:=hidR how
  have HCO:=hidR hco
  clear hpr how hco
  by_cases hlt:(l.length:Int) < 1+x
  ·have c0:=HP.out.c0
   go_wp2_with fail
   first | go_region_law (first | (refine app_capsV (by rfl) _ _ (by rfl) w5 (IntKind.i64.wrap (1+y)) (w.heap.size+2) l v0 (by rfl) ((HW.out.kp (w':=wr.drew) (But.of_below (g:=p) (Below.drew (Below.refl _ _))) (by omega)).kp hb5 (by omega)) (by rfl) (by omega) P5.lt ?_;intro g cap w6 ho6 hg6 hr6;have P6:=(P5.alloc _).grown hg6 hr6;have d2:=P6.c0;have d3:=P6.fP) | (refine step_call 17 #[.pointer (some ⟨p,0,none⟩),.int .i64 4] (by rfl) _ _ (by rfl) (by simp [go_sem]) ent_below ?_;refine (below_cb p s n c 4 wr.drew HP.out.drew.cb (by omega) (by omega)).mono ?_;rintro e w5 ⟨y,rfl,y0,y1,hc5,hb5⟩;have P5:=HP.out.drew.step hc5 hb5;have d0:=P5.c0;have l5:=P5.lt;refine ⟨_,rfl,?_⟩)) | fail
   all_goals
    clear c0 d0 d2 d3
    have H6:=hidR P6
    have O6:=hidR ho6
    have HC6:Hid (CapsOk (l++[IntKind.i64.wrap (1+y)])):=by
     intro z hz
     rcases List.mem_append.1 hz with hz | hz
     ·exact HCO.out z hz
     ·simp at hz
      subst hz
      rw [IntKind.wrap_i64]
      omega
    clear P6 ho6 P5 hb5 hc5
    go_wp2
    go_roundw
    case rel=>exact ⟨l++[IntKind.i64.wrap (1+y)],_,by simp;omega,by simp;try go_num,H6.out.set0 _,by simpa using O6.out.st (by omega),HC6.out⟩
    case measure=>simp [intOf];omega
  ·have hjx:Hid ((l.length:Int)=1+x):=by show _=_;omega
   go_wp2
   go_loopw [6] (fun i wr=>∃ (bs:List (List I5)) (v1:Value),bs.length≤4∧i=.int .i64 bs.length∧Pr w wr p s n c w.heap.size v0 v1∧OwnN wr (w.heap.size+2) v0 l∧OwnB wr (w.heap.size+2) v1 bs∧BodsOk bs (1+x)) (fun i _=>5 - (intOf i).toNat)
   case atStart=>exact ⟨[],_,by simp,rfl,HP.out,HW.out,OwnB.nil _ _,fun b hb=>by cases hb⟩
   case round=>
    obtain ⟨bs,v1,hk,rfl,hpr,hoc,hos,hbo⟩:=hrel
    have P1:=hidR hpr
    have C1:=hidR hoc
    have S1:=hidR hos
    have BO:=hidR hbo
    clear hpr hoc hos hbo HP HW
    go_wp2_with fail
    refine (below_cb p s n c 4 wr P1.out.cb (by omega) (by omega)).mono ?_
    rintro e w2 ⟨y,rfl,y0,y1,hc2,hb2⟩
    have P2:=hidR (P1.out.step hc2 hb2)
    have C2:=hidR (C1.out.kp hb2 (by omega))
    have S2:=hidR (S1.out.kp hb2 (by omega))
    clear hc2 hb2 P1 C1 S1
    by_cases hlt':(bs.length:Int) < 1+y
    ·have c1:=P2.out.c1
     have l2:=P2.out.lt
     go_wp2_with fail
     first | go_region_law (first | (refine app_bodsV (by rfl) _ _ (by rfl) w2.drew w5 (.slice sl L.length cp) L (w.heap.size+2) p bs v1 (by rfl) (S2.out.kp (w':=w2.drew) (But.of_below (g:=p) (Below.drew (Below.refl _ _))) (by omega)) hb5 (by omega) ho5 (by rfl) (by omega) (by simp;omega) ?_;intro g cap w6 ho6 hg6 hr6 hrow6;have P6:=(P5.alloc _).grown hg6 (fun k hk=>(hr6 k hk).1);have d2:=P6.c1;have d3:=P6.fP) | (refine step_call 46 #[.pointer (some ⟨p,0,none⟩),.int .i64 (1+x)] (by rfl) _ _ (by rfl) (by simp [go_sem]) ent_body ?_;refine (drawBody_ok p s n c (1+x) w2.drew P2.out.drew.cb (by omega) (by omega)).mono ?_;rintro e w5 ⟨yv,L,rfl,ho5,m1,m2,hc5,hb5⟩;have P5:=P2.out.drew.step hc5 hb5;have d0:=P5.c1;have l5:=P5.lt;obtain ⟨sl,cp,rfl⟩:=own_sl ho5;refine ⟨_,rfl,?_⟩)) | fail
     all_goals
      clear c1 d0 d2 d3
      have H6:=hidR P6
      have O6:=hidR ho6
      have C6:Hid (OwnN w6 (w.heap.size+2) v0 l):=by
       have a1:=(C2.out.kp (w':=w2.drew) (But.of_below (g:=p) (Below.drew (Below.refl _ _))) (by omega)).kp hb5 (by omega)
       refine OwnN.far' (a1.kp (p:=p) ((But.refl p _).alloc _) (by omega)) hg6 (fun k hk=>?_)
       obtain ⟨cs,f,hcs⟩:=hrow6 k hk
       have hk2:=(hr6 k hk).2
       exact ⟨cs,f,(Below.heap_alloc _ _ _ (Nat.lt_of_lt_of_le hk2 hb5.size)).trans ((hb5.block k hk2 (by have:=(hr6 k hk).1;omega)).trans hcs)⟩
      have BO6:Hid (BodsOk (bs++[L]) (1+x)):=by
       intro b hb
       rcases List.mem_append.1 hb with hb | hb
       ·exact BO.out b hb
       ·simp at hb
        subst hb
        exact ⟨m1,m2⟩
      clear P6 ho6 P5 hb5 hc5 ho5 m1 m2 hg6 hr6 hrow6
      go_wp2
      go_roundw
      case rel=>exact ⟨bs++[L],_,by simp;omega,by simp;try go_num,H6.out.set1 _,C6.out.st (by omega),by simpa using O6.out.st (by omega),BO6.out⟩
      case measure=>simp [intOf];omega
    ·obtain ⟨s0,a0,e0⟩:=own_sl C2.out
     obtain ⟨s1,a1,e1⟩:=S2.out.sl
     subst e0 e1
     have c0:=P2.out.c0
     have c1:=P2.out.c1
     have l2:=P2.out.lt
     obtain ⟨q0,g0⟩:=Option.isSome_iff_exists.1 P2.out.r0
     obtain ⟨q1,g1⟩:=Option.isSome_iff_exists.1 P2.out.r1
     have fz:=P2.out.fR
     have hjj:=hjx.out
     have B2:Hid (But p w w2):=P2.out.but
     have CB2:Hid (CBx158 w2 p s n c):=P2.out.cb
     have BO2:Hid (BodsOk bs l.length):=by rw [hjj];exact BO.out
     go_wp2
     exact bodyPost_ret (v:=.agg #[.slice s0 l.length a0,.slice s1 bs.length a1]) (by simp [results,Try.results37,go_sem,g0,g1]) rfl ⟨_,_,l,bs,rfl,own_mono ((C2.out.st (g:=w.heap.size) (by omega)).st (g:=w.heap.size) (by omega)) (by omega),((S2.out.st (g:=w.heap.size) (by omega)).st (g:=w.heap.size) (by omega)).low (by omega),by omega,by omega,HCO.out,BO2.out,(CB2.out.set hp).set hp,but_set1 (but_set1 B2.out (Nat.le_refl _)) (Nat.le_refl _)⟩
end
section
set_option linter.unusedSimpArgs false
set_option linter.unusedVariables false
set_option maxRecDepth 100000
open Go.RowKit
/- new cores -/
def zKD:KD:=⟨0,List.replicate 8 0,List.replicate 24 0,0⟩
theorem made0 {w:World} {base n:Nat} (hb:base≤w.heap.size) (hn:n≤1048576):OwnN (w.alloc (.cells (madeCells #[.int .i64 0] n) 3)) base (.slice (some ⟨w.heap.size,0,none⟩) n n) (List.replicate n 0):=by
 have h0:=World.ownsRow_lit (base:=base) (e:=3) (size:=1) w (madeCells #[.int .i64 0] n) n hb (by unfold maxLen;omega) (by rw [size_madeCells,Nat.mul_one])
 rw [toList_madeCells_one] at h0
 show World.ownsRow _ _ _ _ _ _ _
 rw [List.length_replicate,List.map_replicate]
 exact h0
def WA (w:World):World:=(w.alloc (.cells (madeCells #[.int .i64 0] 8) 3)).alloc (.cells (madeCells #[.int .i64 0] 24) 3)
def WB (w:World):World:=(w.alloc (.cells (madeCells #[.int .i64 0] 24) 3)).alloc (.cells (madeCells #[.int .i64 0] 8) 3)
def yA (w:World):KV:=⟨zKD,.slice (some ⟨w.heap.size,0,none⟩) 8 8,.slice (some ⟨w.heap.size+1,0,none⟩) 24 24⟩
def yB (w:World):KV:=⟨zKD,.slice (some ⟨w.heap.size+1,0,none⟩) 8 8,.slice (some ⟨w.heap.size,0,none⟩) 24 24⟩
theorem WA_below (w:World):Below w.heap.size w (WA w):=((Below.refl _ _).alloc (Nat.le_refl _) _).alloc (by simp) _
theorem WB_below (w:World):Below w.heap.size w (WB w):=((Below.refl _ _).alloc (Nat.le_refl _) _).alloc (by simp) _
theorem WA_size (w:World):(WA w).heap.size=w.heap.size+2:=by simp [WA]
theorem WB_size (w:World):(WB w).heap.size=w.heap.size+2:=by simp [WB]
theorem WA_own {w:World} {base:Nat} (hb:base≤w.heap.size):OwnN (WA w) base (yA w).r (yA w).d.regs∧OwnN (WA w) base (yA w).v (yA w).d.vw:=by
 refine ⟨ownKeep' (made0 (n:=8) hb (by omega)) (fun k hk=>Below.heap_alloc _ _ _ ?_),?_⟩
 ·have hk2:some w.heap.size=some k:=hk
  injection hk2 with hk2
  simp
  omega
 ·have h:=made0 (w:=w.alloc (.cells (madeCells #[.int .i64 0] 8) 3)) (base:=base) (n:=24) (by simp;omega) (by omega)
  rw [World.size_alloc] at h
  exact h
theorem WB_own {w:World} {base:Nat} (hb:base≤w.heap.size):OwnN (WB w) base (yB w).r (yB w).d.regs∧OwnN (WB w) base (yB w).v (yB w).d.vw:=by
 refine ⟨?_,ownKeep' (made0 (n:=24) hb (by omega)) (fun k hk=>Below.heap_alloc _ _ _ ?_)⟩
 ·have h:=made0 (w:=w.alloc (.cells (madeCells #[.int .i64 0] 24) 3)) (base:=base) (n:=8) (by simp;omega) (by omega)
  rw [World.size_alloc] at h
  exact h
 ·have hk2:some w.heap.size=some k:=hk
  injection hk2 with hk2
  simp
  omega
theorem new_sep {w:World} {base:Nat} {v:Value} {L:List KV} (h:OwnKx117 w base v L) {y:KV} (hy:y=yA w∨y=yB w):∀ (i:Nat) (z:KV) (k:Nat),L[i]? =some z→(y.r.ownBlock=some k∨y.v.ownBlock=some k)→¬ (z.r.ownBlock=some k∨z.v.ownBlock=some k):=fun i z k hz hk hk'=>by
 have h1:w.heap.size≤k:=by
  rcases hy with rfl | rfl<;>rcases hk with hk | hk
  ·have e:some w.heap.size=some k:=hk
   injection e with e;omega
  ·have e:some (w.heap.size+1)=some k:=hk
   injection e with e;omega
  ·have e:some (w.heap.size+1)=some k:=hk
   injection e with e;omega
  ·have e:some w.heap.size=some k:=hk
   injection e with e;omega
 rcases hk' with hk' | hk'
 ·have:=(World.ownsRow.lt (h.inn i z hz).1 _ hk').2
  omega
 ·have:=(World.ownsRow.lt (h.inn i z hz).2 _ hk').2
  omega
theorem new_two {w:World} {y:KV} (hy:y=yA w∨y=yB w):∀ k,y.r.ownBlock=some k→y.v.ownBlock≠some k:=fun k hk hk'=>by
 rcases hy with rfl | rfl
 ·have e:some w.heap.size=some k:=hk
  have e':some (w.heap.size+1)=some k:=hk'
  injection e with e
  injection e' with e'
  omega
 ·have e:some (w.heap.size+1)=some k:=hk
  have e':some w.heap.size=some k:=hk'
  injection e with e
  injection e' with e'
  omega
def newMd (l:List (List I5)):MD:=⟨l,List.replicate l.length zKD,newM 24,[]⟩
def newMa (l:List (List I5)):MD:=if codesB l then newMd l else noMd
theorem view_new:viewB (newM 24) (List.replicate 24 0)=true:=by decide+kernel
theorem mem_new:memB (newM 24)=true:=by decide+kernel
theorem code_pos {x:List I5} (h:codeB x=true):1≤x.length:=by
 unfold codeB at h
 simp at h
 omega
theorem mach_new (l:List (List I5)):machB (newMd l)=codesB l:=by
 cases hc:codesB l with
 | false=>unfold machB;simp [newMd,hc]
 | true=>
  have ha:l.all codeB=true:=by unfold codesB at hc;simp at hc ⊢;exact hc.2
  have hz:coresB (newM 24) (List.replicate l.length zKD) l=true:=by
   unfold coresB
   rw [decide_eq_true (by simp)]
   simp only [Bool.true_and]
   refine all_yes (fun i t ht=>?_)
   obtain ⟨h1,h2⟩:=List.getElem?_zip_eq_some.1 ht
   have e1:t.1=zKD:=by
    rw [List.getElem?_replicate] at h1
    split at h1
    ·injection h1 with h1;exact h1.symm
    ·cases h1
   have hp:=code_pos (List.all_eq_true.1 ha t.2 (List.mem_of_getElem? h2))
   unfold coreB
   rw [e1]
   simp only [zKD,List.length_replicate]
   rw [view_new]
   simp [Plain.inB,Plain.oneB]
   omega
  have ht:trB [] (List.replicate l.length zKD).length=true:=by simp [trB]
  unfold machB
  simp only [newMd]
  rw [hc,hz,ht,mem_new]
  rfl
theorem szK_new:∀ n,szK (List.replicate n zKD)=n * 32
 | 0=>rfl
 | n+1=>by
  rw [List.replicate_succ]
  show zKD.regs.length+zKD.vw.length+szK (List.replicate n zKD)=(n+1) * 32
  rw [szK_new n]
  show 8+24+n * 32=(n+1) * 32
  omega
theorem szR_new:szR (newM 24)=600:=by decide+kernel
theorem fits_new {l:List (List I5)} (h:l.length+szC l≤1048576) (h4:l.length≤4):MaFits (newMd l):=by
 refine ⟨h,?_,?_,by simp [newMd]⟩
 ·simp only [newMd,szK_new,List.length_replicate]
  omega
 ·simp only [newMd,szR_new,newM_len]
  omega
theorem MaO.of3 {w:World} {lo hi a1 b1 a2 b2 a3 b3:Nat} {p:MP} {d:MD} (hc:GO w a1 b1 p.s1 TC p.RC (d.codes.map codeV)) (hm:MO w a2 b2 p.s3 p.S d.mem) (hk:GO w a3 b3 p.s2 TK p.RK (d.cores.map coreV)) (ht:d.tr=[]) (l1:lo≤a1) (l2:b1≤a2) (l3:b2≤a3) (l4:b3≤hi) (l5:a1≤b1:=by omega) (l6:a2≤b2:=by omega) (l7:a3≤b3:=by omega):MaO w lo hi p d:=by
 have hv:vAs (p.x4 d)=[]:=by simp [MP.x4,VS.wide,vAs,ht]
 refine ⟨hc.mono (by omega) (by omega),hk.mono (by omega) (by omega),hm.mono (by omega) (by omega),⟨by simp [MP.x4,VS.wide,ht,fl2],.inl (by simp [ht,fl2])⟩,?_⟩
 unfold MP.as
 rw [hv,List.append_nil]
 refine List.nodup_append.2 ⟨hc.d,List.nodup_append.2 ⟨hk.d,hm.d,fun a ha b hb e=>?_⟩,fun a ha b hb e=>?_⟩
 ·subst e
  have:=(hk.blk ha).1
  have:=(hm.blk hb).2
  omega
 ·subst e
  have:=(hc.blk ha).2
  rcases List.mem_append.1 hb with hb | hb
  ·have:=(hk.blk hb).1
   omega
  ·have:=(hm.blk hb).1
   omega
end
section
set_option linter.unusedSimpArgs false
set_option linter.unusedVariables false
set_option maxRecDepth 100000
open Go.RowKit
set_option maxRecDepth 100000 in
set_option maxHeartbeats 1000000 in
theorem specCode_some (g off c B : Nat) (l : List I5) (w : World) (hg : g < B) (hc : ∀ i, i < l.length → At5 w g (off + i * 5) (l.getD i z5)) (hB : B ≤ w.heap.size) (hl : l.length ≤ 1048576) :
  Calls Try.prog 70 #[.slice (some ⟨g,off,none⟩) l.length c] w fun e w'=>e=.returned (.bool (codeB l))∧Below w.heap.size w w':=by
 have HC:Hid (∀ i,i < l.length→At5 w g (off+i * 5) (l.getD i z5)):=hc
 clear hc
 go_enter Try.func70,Try.ntmps70
 cases h1:Plain.inB (l.length:Int) 1 800
 ·have F:Hid (codeB l=false):=code_short h1
  go_wp2_with (go_at_call 21;refine (l1In_is _ _ _ _ _ h1).mono ?_;rintro e w' ⟨rfl,rfl⟩)
  go_ret
  exact ⟨by rw [F.out];rfl,Below.refl _ _⟩
 have hlen:1≤l.length∧l.length≤800:=by simp [Plain.inB] at h1;omega
 go_wp2_with (go_at_call 21;refine (l1In_is _ _ _ _ _ h1).mono ?_;rintro e w' ⟨rfl,hw⟩;have hw':=hw.symm;clear hw;subst hw')
 clear h1
 go_loopw [4] (fun i wr=>∃ k:Nat,k≤l.length∧i=.int .i64 k∧Below w.heap.size w wr∧(∀ i,i < k→stX (l.getD i z5) l.length=true)) (fun i _=>l.length - (intOf i).toNat)
 case atStart=>exact ⟨0,Nat.zero_le _,rfl,Below.refl _ _,fun i hi=>absurd hi (Nat.not_lt_zero _)⟩
 case round=>
  obtain ⟨k,hk,rfl,hb,hd⟩:=hrel
  have HB:Hid (Below w.heap.size w wr):=hb
  have HD:Hid (∀ i,i < k→stX (l.getD i z5) l.length=true):=hd
  clear hb hd
  by_cases hlt:k < l.length
  ·obtain ⟨f0,f1,f2,f3,f4⟩:=(HC.out k hlt).keep HB.out (by omega)
   cases hv:stX (l.getD k z5) l.length
   ·have F:Hid (codeB l=false):=code_no hlt hv
    generalize l.getD k z5=x at f0 f1 f2 f3 f4 hv
    obtain ⟨xo,xr,xa,xb,xn⟩:=x
    have V:Hid (Plain.stepB xo xr xa xb xn l.length=false):=hv
    clear hv
    have b0:(0:Int)≤(k:Int):=by omega
    have b1:(k:Int) < (l.length:Int):=by omega
    go_wp2_with fail
    refine (specStepOk_any _ _ _ _ _ _ _).mono ?_
    rintro e w1 ⟨rfl,hb1⟩
    rw [V.out]
    have hs1:=HB.out.size
    go_wp2
    go_ret
    exact ⟨by rw [F.out];rfl,HB.out.trans (hb1.mono hs1)⟩
   ·have HV:Hid (stX (l.getD k z5) l.length=true):=hv
    generalize l.getD k z5=x at f0 f1 f2 f3 f4 hv
    obtain ⟨xo,xr,xa,xb,xn⟩:=x
    have V:Hid (Plain.stepB xo xr xa xb xn l.length=true):=hv
    clear hv
    have b0:(0:Int)≤(k:Int):=by omega
    have b1:(k:Int) < (l.length:Int):=by omega
    go_wp2_with fail
    refine (specStepOk_any _ _ _ _ _ _ _).mono ?_
    rintro e w1 ⟨rfl,hb1⟩
    rw [V.out]
    have hs1:=HB.out.size
    have HB1:Hid (Below wr.heap.size wr w1):=hb1
    clear hb1
    go_wp2
    go_roundw
    case rel=>
     refine ⟨k+1,by omega,by go_num,HB.out.trans (HB1.out.mono hs1),?_⟩
     intro i hi
     by_cases e:i=k
     ·subst e;exact HV.out
     ·exact HD.out i (by omega)
    case measure=>simp [intOf];omega
  ·have:k=l.length:=by omega
   subst this
   have F:Hid (codeB l=lastBx44 l):=by
    show _=_
    rw [code_all HD.out,decide_eq_true hlen]
    simp
   obtain ⟨f0,-⟩:=(HC.out (l.length - 1) (by omega)).keep HB.out (by omega)
   generalize hx:(l.getD (l.length - 1) z5).o=x at f0
   have FX:Hid (lastBx44 l=Plain.endB x):=by show _=_;unfold lastBx44;rw [hx]
   clear hx
   have b0:(1:Int)≤(l.length:Int):=by omega
   have b1:(l.length:Int) - 1 < (l.length:Int):=by omega
   by_cases x10:x=10
   ·subst x10
    go_wp2
    go_ret
    exact ⟨ret_bool (by rw [F.out,FX.out];rfl),HB.out⟩
   by_cases x12:x=12
   ·subst x12
    go_wp2
    go_ret
    exact ⟨ret_bool (by rw [F.out,FX.out];rfl),HB.out⟩
   have y10:(x==10)=false:=by simpa using x10
   have y12:(x==12)=false:=by simpa using x12
   go_wp2
   go_ret
   exact ⟨ret_bool (by rw [F.out,FX.out,Bool.eq_iff_iff];simp [Plain.endB,x10,x12]),HB.out⟩
theorem specCode_any (s : Option Addr) (c B : Nat) (l : List I5) (w : World) (h : InsB w B s l) (hB : B ≤ w.heap.size) (hl : l.length ≤ 1048576) :
  Calls Try.prog 70 #[.slice s l.length c] w fun e w'=>e=.returned (.bool (codeB l))∧Below w.heap.size w w':=by
 rcases h with rfl | ⟨g,off,rfl,hg,hc⟩
 ·have h1:Plain.inB ((0:Nat):Int) 1 800=false:=by decide
  have h2:Plain.inB 0 1 800=false:=by decide
  have F:Hid (codeB []=false):=code_short (l:=[]) h1
  clear h1
  go_enter Try.func70,Try.ntmps70
  go_wp2_with (go_at_call 21;refine (l1In_is _ _ _ _ _ h2).mono ?_;rintro e w' ⟨rfl,rfl⟩)
  go_ret
  exact ⟨by rw [F.out];rfl,Below.refl _ _⟩
 ·exact specCode_some g off c B l w hg hc hB hl
end
end Go.Proofs.Ytkhjhibigldcgaa
