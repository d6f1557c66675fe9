/- l1DrawRight: a program that is right is drawn into new memory, with what it has; the cursor's own block alone is turned. Conditions: the cursor and its bytes lie in memory as the reading says. l1DrawRight: the program that is drawn is right, and is owned with what it has; the cursor's own block alone is turned. Conditions: the cursor and its bytes lie in memory as the reading says. l7DrawStep: a step is drawn; the cursor's own block alone is turned. Conditions: the cursor and its bytes lie in memory as the reading says; 1 to 256 places. A drawn step is right for its places. Conditions: the cursor and its bytes lie in memory as the reading says; 1 to 256 places. l7Spoil: a step is drawn and perhaps spoiled. Conditions: the cursor and its bytes lie in memory as the reading says; 1 to 256 places. Rows of steps that a draw makes and grows: as long as every cell is a number they read as a list of steps. No condition. A drawn code is right, and its steps are known. Conditions: the cursor and its bytes lie in memory as the reading says. Drawn picks: a row of its own, of few. Conditions: the cursor and its bytes lie in memory as the reading says; at most 40 rounds. The body that is asked for, without a program. The code of a body, without a program: the code of its places, one behind the other. Conditions: bodies that are right. A scope in which the run jumps to several labels: what holds at each jump, and a measure that each pass from a label lowers. No condition. -/
import Derived.Test.YtkhjhibigldcgaaGreatBG00
import Derived.Test.YtkhjhibigldcgaaGreatBG04
import Derived.Test.YtkhjhibigldcgaaGreatBG11
import Derived.Test.YtkhjhibigldcgaaGreatBG01
import Derived.Test.YtkhjhibigldcgaaGreatBG14
import Derived.Test.YtkhjhibigldcgaaGreatBG13
import Derived.Test.YtkhjhibigldcgaaGreatBDrawBodyR
import Derived.Test.YtkhjhibigldcgaaGreatBG12
import Derived.Deep.RegionLaw
import Derived.Test.YtkhjhibigldcgaaGreatBG03
import Derived.Test.YtkhjhibigldcgaaGreatBDraw2
import Derived.Test.YtkhjhibigldcgaaGreatBG09
import Derived.Deep.AppendLies
import Derived.Deep.Slices
import Derived.Laws.OwnMore
import Derived.Test.YtkhjhibigldcgaaGreatBG05
import Derived.Test.YtkhjhibigldcgaaGreatBG10
import Derived.Test.YtkhjhibigldcgaaGreatBG07
import Derived.Test.YtkhjhibigldcgaaGreatBProgOk
import Derived.Test.YtkhjhibigldcgaaGreatBG06
import Derived.ScopeJumps
import Derived.WalkMore
import Derived.WalkKit
namespace Go.Proofs.YtkhjhibigldcgaaGreat
section
set_option linter.unusedSimpArgs false
set_option linter.unusedVariables false
set_option maxRecDepth 100000
open Go.RowKit Go.Deep
theorem own_block {w w':World} {base size n:Nat} {e:TypeId} {v:Value} {xs:List Value} (h:w.ownsRow base e size v n xs) (hk:∀ k,base≤k→k < w.heap.size→w'.heap[k]? =w.heap[k]?):w'.ownsRow base e size v n xs:=by
 obtain ⟨h1,h2⟩:=h
 refine ⟨h1,?_⟩
 rcases h2 with h2 | ⟨g,cap,cur,hv,hb,hg,h3⟩
 ·exact .inl h2
 ·have hlt:g < w.heap.size:=by
   apply Classical.byContradiction
   intro hn
   rw [Array.getElem?_eq_none (by omega)] at hg
   cases hg
  exact .inr ⟨g,cap,cur,hv,hb,(hk g hb hlt).trans hg,h3⟩
theorem own_row {w:World} {base n:Nat} {v:Value} {e:TypeId} {size:Nat} {xs:List Value} (h:w.ownsRow base e size v n xs):∀ k,v.ownBlock=some k→base≤k:=by
 intro k hk
 rcases h.2 with ⟨rfl,-⟩ | ⟨g,cap,cur,rfl,hb,-⟩
 ·cases hk
 ·simp [Value.ownBlock] at hk
  omega
theorem but_set1 {w0 w:World} {p R i:Nat} {v:Value} (h:But p w0 w) (hR:w0.heap.size≤R):But p w0 (w.setCell ⟨R,i,none⟩ v):=by
 have b:Below w0.heap.size w (w.setCell ⟨R,i,none⟩ v):=(Below.refl _ _).setCell (p:=⟨R,i,none⟩) hR _
 exact ⟨b.os.trans h.os,b.tape.trans h.tape,b.output.trans h.output,Nat.le_trans h.size b.size,fun k hk hp=>(b.block k hk).trans (h.block k hk hp)⟩
theorem info29:∃ i,Tryz.prog.info? 53=some i∧i.zero=some (.slice none 0 0)∧i.size=1∧i.bytes=24:=⟨_,rfl,rfl,rfl,rfl⟩
theorem new1 (w:World) (x:Value) (T:TypeId):∀ j u,[x][j]? =some u→(w.alloc (.cells #[x] T)).cell? (Addr.add ⟨w.heap.size,0,none⟩ j)=some u:=by
 intro j u h
 match j,h with
 | 0,h=>simpa [Addr.add,go_sem] using h
/- the state of a drawn program: the cursor at p, the answer's two cells at R, the program's at R + 1, its rows from R + 2 on -/
structure Pr (w0 w:World) (p:Nat) (s:Option Addr) (n c R:Nat) (v0 v1:Value):Prop where
 cb:CBx158 w p s n c
 but:But p w0 w
 c0:w.cell? ⟨R+1,0,none⟩=some v0
 c1:w.cell? ⟨R+1,1,none⟩=some v1
 fP:∀ j,w.frozen? ⟨R+1,j,none⟩=false
 r0:(w.cell? ⟨R,0,none⟩).isSome=true
 r1:(w.cell? ⟨R,1,none⟩).isSome=true
 fR:∀ j,w.frozen? ⟨R,j,none⟩=false
 lt:R+1 < w.heap.size
 pR:p < R
 old:w0.heap.size≤R
theorem Pr.step {w0 w w':World} {p n c R:Nat} {s:Option Addr} {v0 v1:Value} (h:Pr w0 w p s n c R v0 v1) (hc:CBx158 w' p s n c) (hb:But p w w'):Pr w0 w' p s n c R v0 v1:=by
 have h1:=h.lt
 have h2:=h.pR
 have h3:=hb.size
 exact ⟨hc,h.but.trans hb,(hb.cell (p:=⟨R+1,0,none⟩) h1 (by show R+1≠p;omega)).trans h.c0,(hb.cell (p:=⟨R+1,1,none⟩) h1 (by show R+1≠p;omega)).trans h.c1,fun j=>(hb.frozen (p:=⟨R+1,j,none⟩) h1 (by show R+1≠p;omega)).trans (h.fP j),
  by rw [hb.cell (p:=⟨R,0,none⟩) (by show R < _;omega) (by show R≠p;omega)];exact h.r0,by rw [hb.cell (p:=⟨R,1,none⟩) (by show R < _;omega) (by show R≠p;omega)];exact h.r1,fun j=>(hb.frozen (p:=⟨R,j,none⟩) (by show R < _;omega) (by show R≠p;omega)).trans (h.fR j),by omega,h.pR,h.old⟩
theorem Pr.grown {w0 w w':World} {p n c R:Nat} {s:Option Addr} {v0 v1:Value} {row:Option Nat} (h:Pr w0 w p s n c R v0 v1) (hg:w.grownBy w' row) (hr:∀ k,row=some k→R+2≤k):Pr w0 w' p s n c R v0 v1:=by
 have h1:=h.lt
 have h2:=h.pR
 have h4:=h.old
 have h3:=hg.size
 have hk:∀ k,k < R+2→w'.heap[k]? =w.heap[k]? :=fun k hk=>hg.block k (by omega) (fun e=>by have:=hr k e.symm;omega)
 have cl:∀ k j,k < R+2→w'.cell? ⟨k,j,none⟩=w.cell? ⟨k,j,none⟩:=fun k j h=>World.cell?_of_block (w:=w) (hk k h)
 have fz:∀ k j,k < R+2→w'.frozen? ⟨k,j,none⟩=w.frozen? ⟨k,j,none⟩:=fun k j h=>World.frozen?_of_block (w:=w) (hk k h)
 exact ⟨h.cb.grown hg (fun k e=>by have:=hr k e;omega),h.but.grown hg (fun k e=>by have:=hr k e;omega),(cl _ _ (by omega)).trans h.c0,(cl _ _ (by omega)).trans h.c1,fun j=>(fz _ _ (by omega)).trans (h.fP j),by rw [cl _ _ (by omega)];exact h.r0,by rw [cl _ _ (by omega)];exact h.r1,fun j=>(fz _ _ (by omega)).trans (h.fR j),by omega,h.pR,h.old⟩
theorem Pr.alloc {w0 w:World} {p n c R:Nat} {s:Option Addr} {v0 v1:Value} (h:Pr w0 w p s n c R v0 v1) (o:Obj):Pr w0 (w.alloc o) p s n c R v0 v1:=h.step (h.cb.alloc o) ((But.refl _ _).alloc o)
theorem Pr.drew {w0 w:World} {p n c R:Nat} {s:Option Addr} {v0 v1:Value} (h:Pr w0 w p s n c R v0 v1):Pr w0 w.drew p s n c R v0 v1:=h.step (h.cb.keep (Below.drew (Below.refl _ _))) (But.of_below (Below.drew (Below.refl _ _)))
theorem prCellAt {w:World} {g i:Nat} {v:Value} (h:(w.cell? ⟨g,i,none⟩).isSome=true):(w.setCell ⟨g,i,none⟩ v).cell? ⟨g,i,none⟩=some v:=World.cell?_setCell_same' w _ v h
theorem prCellOff {w:World} {g g' i j:Nat} {v:Value} (h:g≠g'∨i≠j):(w.setCell ⟨g,i,none⟩ v).cell? ⟨g',j,none⟩=w.cell? ⟨g',j,none⟩:=by
 apply World.cell?_setCell_other
 intro e
 injection e with e1 e2
 rcases h with h | h
 ·exact h e1
 ·exact h e2
theorem Pr.set0 {w0 w:World} {p n c R:Nat} {s:Option Addr} {v0 v1:Value} (h:Pr w0 w p s n c R v0 v1) (v:Value):Pr w0 (w.setCell ⟨R+1,0,none⟩ v) p s n c R v v1:=by
 have h2:=h.pR
 have h4:=h.old
 exact ⟨h.cb.set (by show p < R+1;omega),but_set1 h.but (by omega),prCellAt (by rw [h.c0];rfl),(prCellOff (by omega)).trans h.c1,fun j=>by rw [World.frozen?_setCell];exact h.fP j,by rw [prCellOff (by omega)];exact h.r0,by rw [prCellOff (by omega)];exact h.r1,fun j=>by rw [World.frozen?_setCell];exact h.fR j,by simpa using h.lt,h.pR,h.old⟩
theorem Pr.set1 {w0 w:World} {p n c R:Nat} {s:Option Addr} {v0 v1:Value} (h:Pr w0 w p s n c R v0 v1) (v:Value):Pr w0 (w.setCell ⟨R+1,1,none⟩ v) p s n c R v0 v:=by
 have h2:=h.pR
 have h4:=h.old
 exact ⟨h.cb.set (by show p < R+1;omega),but_set1 h.but (by omega),(prCellOff (by omega)).trans h.c0,prCellAt (by rw [h.c1];rfl),fun j=>by rw [World.frozen?_setCell];exact h.fP j,by rw [prCellOff (by omega)];exact h.r0,by rw [prCellOff (by omega)];exact h.r1,fun j=>by rw [World.frozen?_setCell];exact h.fR j,by simpa using h.lt,h.pR,h.old⟩
theorem pr_new (w:World) (p n c:Nat) (s:Option Addr) (v0 v1 u0 u1:Value) (T T':TypeId) (h:CBx158 w p s n c):Pr w ((w.alloc (.cells #[u0,u1] T)).alloc (.cells #[v0,v1] T')) p s n c w.heap.size v0 v1:=
 ⟨(h.alloc _).alloc _,((But.refl _ _).alloc _).alloc _,by simp [go_sem],by simp [go_sem],fun j=>by simp [go_sem],by simp [go_sem],by simp [go_sem],fun j=>by simp [go_sem],by simp,h.lt,Nat.le_refl _⟩
theorem own_mono {w:World} {base base' size n:Nat} {e:TypeId} {v:Value} {xs:List Value} (h:w.ownsRow base e size v n xs) (hb:base'≤base):w.ownsRow base' e size v n xs:=by
 obtain ⟨h1,h2⟩:=h
 refine ⟨h1,?_⟩
 rcases h2 with h2 | ⟨g,cap,cur,hv,hb',hr⟩
 ·exact .inl h2
 ·exact .inr ⟨g,cap,cur,hv,by omega,hr⟩
theorem own_sl {w:World} {base size n:Nat} {e:TypeId} {v:Value} {xs:List Value} (h:w.ownsRow base e size v n xs):∃ (s:Option Addr) (c:Nat),v=.slice s n c:=by
 rcases h.2 with ⟨rfl,rfl⟩ | ⟨g,cap,cur,rfl,-⟩
 ·exact ⟨none,0,rfl⟩
 ·exact ⟨_,_,rfl⟩
theorem ent_below (args:Array Value) (w:World):(callFunc 11 args).run Tryz.prog w=.ok (.enter 11 args) w:=by kernel_rfl
theorem ent_body (args:Array Value) (w:World):(callFunc 26 args).run Tryz.prog w=.ok (.enter 26 args) w:=by kernel_rfl
theorem OwnB.growL {w w' : World} {base g cap : Nat} {v u : Value} {bs : List (List I5)} {xs : List Value} (h1 : w.ownsRow base 53 1 v bs.length xs) (h2 : ∀ i, i < bs.length → OwnP w base (xs.getD i undef) (bs.getD i []))
  (h3:∀ i j k,i < bs.length→j < bs.length→i≠j→(xs.getD i undef).ownBlock=some k→(xs.getD j undef).ownBlock≠some k) (hu:u.ownBlock=none∨∃ k,u.ownBlock=some k∧w.heap.size≤k)
  (q1:w'.ownsRow base 53 1 (.slice (some ⟨g,0,none⟩) (bs.length+1) cap) (bs.length+1) (xs++[u])) (hk:∀ k,base≤k→k < w.heap.size→v.ownBlock≠some k→w'.heap[k]? =w.heap[k]?) (L:List I5) (hP:OwnP w' base u L):
  OwnB w' base (.slice (some ⟨g,0,none⟩) (bs.length+1) cap) (bs++[L]):=by
 have hxl:xs.length=bs.length:=by have:=h1.1;omega
 refine ⟨xs++[u],by rw [List.length_append];exact q1,?_,?_⟩
 ·intro i hi
  rw [getD_snoc,getD_snoc,hxl]
  by_cases e:i < bs.length
  ·rw [if_pos e,if_pos e]
   exact ownKeep (h2 i e) (fun k hk'=>hk k (World.ownsRow.lt (h2 i e) _ hk').1 (World.ownsRow.lt (h2 i e) _ hk').2 (ownType (h2 i e) h1 (by decide) hk'))
  ·have:i=bs.length:=by simp at hi;omega
   rw [if_neg e,if_pos this,if_neg e,if_pos this]
   exact hP
 ·intro i j k hi hj hne
  simp only [List.length_append,List.length_cons,List.length_nil] at hi hj
  rw [getD_snoc,getD_snoc,hxl]
  by_cases e:i < bs.length<;>by_cases e':j < bs.length
  ·rw [if_pos e,if_pos e'];exact h3 i j k e e' hne
  ·rw [if_pos e,if_neg e',if_pos (by omega)]
   intro hk' hk''
   have:=(World.ownsRow.lt (h2 i e) _ hk').2
   rcases hu with hu | ⟨k',hu,hk2⟩
   ·rw [hu] at hk'';cases hk''
   ·rw [hu] at hk'';injection hk'' with hk'';omega
  ·rw [if_neg e,if_pos (by omega),if_pos e']
   intro hk' hk''
   have:=(World.ownsRow.lt (h2 j e') _ hk'').2
   rcases hu with hu | ⟨k',hu,hk2⟩
   ·rw [hu] at hk';cases hk'
   ·rw [hu] at hk';injection hk' with hk';omega
  ·omega
theorem infoZ:∃ i,Tryz.prog.info? 3=some i∧i.zero=some (.int .i64 0)∧i.size=1∧i.bytes=8:=⟨_,rfl,rfl,rfl,rfl⟩
theorem app_capsV {ops : Array Oper} {o : Oper} {a : Act} {K : Act → World → Prop} {Q : Exit → Act → World → Prop} {F : Prop} (hgd : o.guard = none) (s x : Operand) (ho : o.op = .call { callee := .builtin .append, args := #[s, x], argTypes := #[24, 24] })
  (w:World) (z:Int) (base:Nat) (l:List Int) (v:Value) (hs:a.eval s=v) (hown:OwnN w base v l) (hx:a.eval x=.slice (some ⟨w.heap.size,0,none⟩) 1 1) (hn:l.length≤1000) (hbase:base≤w.heap.size)
  (h:∀ g cap w',OwnN w' base (.slice (some ⟨g,0,none⟩) (l.length+1) cap) (l++[z])→(w.alloc (.cells #[.int .i64 z] 3)).grownBy w' v.ownBlock→(∀ k,v.ownBlock=some k→base≤k)→K (a.put o.dst (.slice (some ⟨g,0,none⟩) (l.length+1) cap)) w'):
  if Region.wanted o (yielded ops a.tmps)=true then Oper.wp Tryz.prog o a (w.alloc (.cells #[.int .i64 z] 3)) K Q else F:=by
 obtain ⟨i0,hi,hz0,hz1,hz2⟩:=infoZ
 have h1':=own_block (w':=w.alloc (.cells #[.int .i64 z] 3)) hown (fun k _ hk=>Below.heap_alloc _ _ _ hk)
 refine step_append_lies _ hgd s x 24 ho base 3 i0 _ 1 8 Tryz.underlying24 hi hz0 hz1 hz2 rfl (by decide) v l.length _ hs h1' ⟨w.heap.size,0,none⟩ 1 1 [.int .i64 z] hx rfl (new1 w _ _) (fun u hu=>by simp at hu;subst hu;rfl) (by decide) (by unfold maxLen;omega) (by omega) (by simp;omega) _ rfl ?_
 intro g cap w' q1 q2 q3 q4
 refine h g cap w' ?_ q2 (own_row hown)
 show w'.ownsRow base 3 1 _ (l++[z]).length ((l++[z]).map (Value.int .i64))
 rw [List.length_append,List.map_append]
 exact q1
theorem app_bodsV {ops : Array Oper} {o : Oper} {a : Act} {K : Act → World → Prop} {Q : Exit → Act → World → Prop} {F : Prop} (hgd : o.guard = none) (s x : Operand) (ho : o.op = .call { callee := .builtin .append, args := #[s, x], argTypes := #[25, 25] })
  (w2 w:World) (y:Value) (L:List I5) (base p:Nat) (bs:List (List I5)) (v:Value) (hs:a.eval s=v) (hown:OwnB w2 base v bs) (hb:But p w2 w) (hp:p < base) (hy:OwnP w w2.heap.size y L) (hx:a.eval x=.slice (some ⟨w.heap.size,0,none⟩) 1 1) (hn:bs.length≤1000) (hbase:base≤w2.heap.size)
  (h:∀ g cap w',OwnB w' base (.slice (some ⟨g,0,none⟩) (bs.length+1) cap) (bs++[L])→(w.alloc (.cells #[y] 53)).grownBy w' v.ownBlock→(∀ k,v.ownBlock=some k→base≤k∧k < w2.heap.size)→(∀ k,v.ownBlock=some k→∃ cs f,w2.heap[k]? =some (.cells cs 53 f))→K (a.put o.dst (.slice (some ⟨g,0,none⟩) (bs.length+1) cap)) w'):
  if Region.wanted o (yielded ops a.tmps)=true then Oper.wp Tryz.prog o a (w.alloc (.cells #[y] 53)) K Q else F:=by
 obtain ⟨i0,hi,hz0,hz1,hz2⟩:=info29
 obtain ⟨xs,h1,h2,h3⟩:=hown
 have h1':=own_block (w':=w.alloc (.cells #[y] 53)) h1 (fun k hk1 hk=>(Below.heap_alloc _ _ _ (Nat.lt_of_lt_of_le hk hb.size)).trans (hb.block k hk (by omega)))
 have hone:y.oneCell'=true:=by
  obtain ⟨-,q⟩:=hy
  rcases q with ⟨rfl,-⟩ | ⟨g,cap,cur,rfl,-⟩<;>rfl
 refine step_append_lies _ hgd s x 25 ho base 53 i0 _ 1 24 Tryz.underlying25 hi hz0 hz1 hz2 rfl (by decide) v bs.length xs hs h1' ⟨w.heap.size,0,none⟩ 1 1 [y] hx rfl (new1 w _ _) (fun u hu=>by simp at hu;subst hu;exact hone) (by decide) (by unfold maxLen;omega) (by omega) (by simp;have:=hb.size;omega) _ rfl ?_
 intro g cap w' q1 q2 q3 q4
 have hyb:∀ k,y.ownBlock=some k→w2.heap.size≤k∧k < w.heap.size:=fun k hk=>World.ownsRow.lt hy _ hk
 have hvb:∀ k,v.ownBlock=some k→base≤k∧k < w2.heap.size:=fun k hk=>World.ownsRow.lt h1 _ hk
 refine h g cap w' (OwnB.growL h1 h2 h3 ?_ q1 ?_ L ?_) q2 hvb ?_
 ·cases hyo:y.ownBlock with
  | none=>exact .inl rfl
  | some k=>exact .inr ⟨k,rfl,(hyb k hyo).1⟩
 ·intro k hk1 hk2 hk3
  exact (q2.block k (by simp;have:=hb.size;omega) (fun e=>hk3 e.symm)).trans ((Below.heap_alloc _ _ _ (Nat.lt_of_lt_of_le hk2 hb.size)).trans (hb.block k hk2 (by omega)))
 ·refine own_mono (ownKeep hy (fun k hk=>?_)) hbase
  have:=hyb k hk
  exact (q2.block k (by simp;omega) (fun e=>by have:=hvb k e.symm;omega)).trans (Below.heap_alloc _ _ _ this.2)
 ·intro k hk
  obtain ⟨-,q⟩:=h1
  rcases q with ⟨rfl,-⟩ | ⟨g',cap',cur,rfl,-,hc,-⟩
  ·cases hk
  ·simp [Value.ownBlock] at hk
   subst hk
   exact ⟨_,_,hc⟩
end
section
set_option linter.unusedSimpArgs false
set_option linter.unusedVariables false
set_option maxRecDepth 100000
open Go.RowKit Go.Deep
theorem hidR {p:Prop} (h:p):Hid p:=h
theorem OwnN.kp {w w':World} {base p:Nat} {v:Value} {l:List Int} (h:OwnN w base v l) (hb:But p w w') (hp:p < base):OwnN w' base v l:=own_block h (fun k h1 h2=>hb.block k h2 (by omega))
theorem OwnB.kp {w w':World} {base p:Nat} {v:Value} {l:List (List I5)} (h:OwnB w base v l) (hb:But p w w') (hp:p < base):OwnB w' base v l:=h.keep (fun k h1 h2=>hb.block k h2 (by omega))
theorem OwnN.st {w:World} {base g j:Nat} {v u:Value} {l:List Int} (h:OwnN w base v l) (hg:g < base):OwnN (w.setCell ⟨g,j,none⟩ u) base v l:=own_block h (fun k h1 h2=>Below.heap_setCell w ⟨g,j,none⟩ u k (by show k≠g;omega))
theorem OwnB.st {w:World} {base g j:Nat} {v u:Value} {l:List (List I5)} (h:OwnB w base v l) (hg:g < base):OwnB (w.setCell ⟨g,j,none⟩ u) base v l:=h.keep (fun k h1 h2=>Below.heap_setCell w ⟨g,j,none⟩ u k (by show k≠g;omega))
/- another row grew: rows of integers stay -/
theorem OwnN.far' {w w':World} {base:Nat} {v:Value} {l:List Int} {row:Option Nat} (h:OwnN w base v l) (hg:w.grownBy w' row) (hr:∀ k,row=some k→∃ cs f,w.heap[k]? =some (.cells cs 53 f)):OwnN w' base v l:=by
 refine ownKeep h (fun k hk=>hg.block k (World.ownsRow.lt h _ hk).2 (fun e=>?_))
 obtain ⟨cs,f,hc⟩:=hr k e.symm
 obtain ⟨-,q⟩:=h
 rcases q with ⟨rfl,-⟩ | ⟨g',cap',cur,rfl,-,hc',-⟩
 ·cases hk
 ·simp [Value.ownBlock] at hk
  subst hk
  rw [hc] at hc'
  injection hc' with hc'
  injection hc' with _ e2 _
  exact absurd e2 (by decide)
def CapsOk (l:List Int):Prop:=∀ z∈l,1≤z∧z≤4
def BodsOk (l:List (List I5)) (ch:Int):Prop:=∀ b∈l,bodyB b ch=true∧b.length≤12
set_option maxRecDepth 100000 in
set_option maxHeartbeats 4000000 in
theorem drawRight_ok (p : Nat) (s : Option Addr) (n c : Nat) (w : World) (h : CBx158 w p s n c) :
  Calls Tryz.prog 17 #[.pointer (some ⟨p,0,none⟩)] w fun e w'=>∃ (v0 v1:Value) (cs:List Int) (bs:List (List I5)),e=.returned (.agg #[v0,v1])∧OwnN w' w.heap.size v0 cs∧OwnB w' w.heap.size v1 bs∧(1≤cs.length∧cs.length≤3)∧(1≤bs.length∧bs.length≤4)∧CapsOk cs∧BodsOk bs cs.length∧CBx158 w' p s n c∧But p w w':=by
 have hp:=h.lt
 have H0:Hid (Pr w ((w.alloc (.cells #[.slice none 0 0,.slice none 0 0] 27)).alloc (.cells #[.slice none 0 0,.slice none 0 0] 27)) p s n c w.heap.size (.slice none 0 0) (.slice none 0 0)):=pr_new w p n c s _ _ _ _ _ _ h
 clear h
 go_enter Tryz.func17,Tryz.ntmps17
 go_wp2_with fail
 refine (below_cb p s n c 3 _ H0.out.cb (by omega) (by omega)).mono ?_
 rintro e w1 ⟨x,rfl,x0,x1,hc1,hb1⟩
 have H1:Hid (Pr w w1 p s n c w.heap.size (.slice none 0 0) (.slice none 0 0)):=H0.out.step hc1 hb1
 clear hc1 hb1 H0
 go_wp2
 go_loopw [5] (fun i wr=>∃ (l:List Int) (v0:Value),(l.length:Int)≤1+x∧i=.int .i64 l.length∧Pr w wr p s n c w.heap.size v0 (.slice none 0 0)∧OwnN wr (w.heap.size+2) v0 l∧CapsOk l) (fun i _=>4 - (intOf i).toNat)
 case atStart=>exact ⟨[],_,by simp;omega,rfl,H1.out,World.ownsRow_nil _ _ _ _,fun z hz=>by cases hz⟩
 case round=>
  obtain ⟨l,v0,hj,rfl,hpr,how,hco⟩:=hrel
  have HP:=hidR hpr
  have HW:=hidR how
  have HCO:=hidR hco
  clear hpr how hco
  by_cases hlt:(l.length:Int) < 1+x
  ·have c0:=HP.out.c0
   go_wp2_with fail
   first | go_region_law (first | (refine app_capsV (by rfl) _ _ (by rfl) w5 (IntKind.i64.wrap (1+y)) (w.heap.size+2) l v0 (by rfl) ((HW.out.kp (w':=wr.drew) (But.of_below (g:=p) (Below.drew (Below.refl _ _))) (by omega)).kp hb5 (by omega)) (by rfl) (by omega) P5.lt ?_;intro g cap w6 ho6 hg6 hr6;have P6:=(P5.alloc _).grown hg6 hr6;have d2:=P6.c0;have d3:=P6.fP) | (refine step_call 11 #[.pointer (some ⟨p,0,none⟩),.int .i64 4] (by rfl) _ _ (by rfl) (by simp [go_sem]) ent_below ?_;refine (below_cb p s n c 4 wr.drew HP.out.drew.cb (by omega) (by omega)).mono ?_;rintro e w5 ⟨y,rfl,y0,y1,hc5,hb5⟩;have P5:=HP.out.drew.step hc5 hb5;have d0:=P5.c0;have l5:=P5.lt;refine ⟨_,rfl,?_⟩)) | fail
   all_goals
    clear c0 d0 d2 d3
    have H6:=hidR P6
    have O6:=hidR ho6
    have HC6:Hid (CapsOk (l++[IntKind.i64.wrap (1+y)])):=by
     intro z hz
     rcases List.mem_append.1 hz with hz | hz
     ·exact HCO.out z hz
     ·simp at hz
      subst hz
      rw [IntKind.wrap_i64]
      omega
    clear P6 ho6 P5 hb5 hc5
    go_wp2
    go_roundw
    case rel=>exact ⟨l++[IntKind.i64.wrap (1+y)],_,by simp;omega,by simp;try go_num,H6.out.set0 _,by simpa using O6.out.st (by omega),HC6.out⟩
    case measure=>simp [intOf];omega
  ·have hjx:Hid ((l.length:Int)=1+x):=by show _=_;omega
   go_wp2
   go_loopw [6] (fun i wr=>∃ (bs:List (List I5)) (v1:Value),bs.length≤4∧i=.int .i64 bs.length∧Pr w wr p s n c w.heap.size v0 v1∧OwnN wr (w.heap.size+2) v0 l∧OwnB wr (w.heap.size+2) v1 bs∧BodsOk bs (1+x)) (fun i _=>5 - (intOf i).toNat)
   case atStart=>exact ⟨[],_,by simp,rfl,HP.out,HW.out,OwnB.nil _ _,fun b hb=>by cases hb⟩
   case round=>
    obtain ⟨bs,v1,hk,rfl,hpr,hoc,hos,hbo⟩:=hrel
    have P1:=hidR hpr
    have C1:=hidR hoc
    have S1:=hidR hos
    have BO:=hidR hbo
    clear hpr hoc hos hbo HP HW
    go_wp2_with fail
    refine (below_cb p s n c 4 wr P1.out.cb (by omega) (by omega)).mono ?_
    rintro e w2 ⟨y,rfl,y0,y1,hc2,hb2⟩
    have P2:=hidR (P1.out.step hc2 hb2)
    have C2:=hidR (C1.out.kp hb2 (by omega))
    have S2:=hidR (S1.out.kp hb2 (by omega))
    clear hc2 hb2 P1 C1 S1
    by_cases hlt':(bs.length:Int) < 1+y
    ·have c1:=P2.out.c1
     have l2:=P2.out.lt
     go_wp2_with fail
     first | go_region_law (first | (refine app_bodsV (by rfl) _ _ (by rfl) w2.drew w5 (.slice sl L.length cp) L (w.heap.size+2) p bs v1 (by rfl) (S2.out.kp (w':=w2.drew) (But.of_below (g:=p) (Below.drew (Below.refl _ _))) (by omega)) hb5 (by omega) ho5 (by rfl) (by omega) (by simp;omega) ?_;intro g cap w6 ho6 hg6 hr6 hrow6;have P6:=(P5.alloc _).grown hg6 (fun k hk=>(hr6 k hk).1);have d2:=P6.c1;have d3:=P6.fP) | (refine step_call 26 #[.pointer (some ⟨p,0,none⟩),.int .i64 (1+x)] (by rfl) _ _ (by rfl) (by simp [go_sem]) ent_body ?_;refine (drawBody_ok p s n c (1+x) w2.drew P2.out.drew.cb (by omega) (by omega)).mono ?_;rintro e w5 ⟨yv,L,rfl,ho5,m1,m2,hc5,hb5⟩;have P5:=P2.out.drew.step hc5 hb5;have d0:=P5.c1;have l5:=P5.lt;obtain ⟨sl,cp,rfl⟩:=own_sl ho5;refine ⟨_,rfl,?_⟩)) | fail
     all_goals
      clear c1 d0 d2 d3
      have H6:=hidR P6
      have O6:=hidR ho6
      have C6:Hid (OwnN w6 (w.heap.size+2) v0 l):=by
       have a1:=(C2.out.kp (w':=w2.drew) (But.of_below (g:=p) (Below.drew (Below.refl _ _))) (by omega)).kp hb5 (by omega)
       refine OwnN.far' (a1.kp (p:=p) ((But.refl p _).alloc _) (by omega)) hg6 (fun k hk=>?_)
       obtain ⟨cs,f,hcs⟩:=hrow6 k hk
       have hk2:=(hr6 k hk).2
       exact ⟨cs,f,(Below.heap_alloc _ _ _ (Nat.lt_of_lt_of_le hk2 hb5.size)).trans ((hb5.block k hk2 (by have:=(hr6 k hk).1;omega)).trans hcs)⟩
      have BO6:Hid (BodsOk (bs++[L]) (1+x)):=by
       intro b hb
       rcases List.mem_append.1 hb with hb | hb
       ·exact BO.out b hb
       ·simp at hb
        subst hb
        exact ⟨m1,m2⟩
      clear P6 ho6 P5 hb5 hc5 ho5 m1 m2 hg6 hr6 hrow6
      go_wp2
      go_roundw
      case rel=>exact ⟨bs++[L],_,by simp;omega,by simp;try go_num,H6.out.set1 _,C6.out.st (by omega),by simpa using O6.out.st (by omega),BO6.out⟩
      case measure=>simp [intOf];omega
    ·obtain ⟨s0,a0,e0⟩:=own_sl C2.out
     obtain ⟨s1,a1,e1⟩:=S2.out.sl
     subst e0 e1
     have c0:=P2.out.c0
     have c1:=P2.out.c1
     have l2:=P2.out.lt
     obtain ⟨q0,g0⟩:=Option.isSome_iff_exists.1 P2.out.r0
     obtain ⟨q1,g1⟩:=Option.isSome_iff_exists.1 P2.out.r1
     have fz:=P2.out.fR
     have hjj:=hjx.out
     have B2:Hid (But p w w2):=P2.out.but
     have CB2:Hid (CBx158 w2 p s n c):=P2.out.cb
     have BO2:Hid (BodsOk bs l.length):=by rw [hjj];exact BO.out
     go_wp2
     exact bodyPost_ret (v:=.agg #[.slice s0 l.length a0,.slice s1 bs.length a1]) (by simp [results,Tryz.results17,go_sem,g0,g1]) rfl ⟨_,_,l,bs,rfl,own_mono ((C2.out.st (g:=w.heap.size) (by omega)).st (g:=w.heap.size) (by omega)) (by omega),((S2.out.st (g:=w.heap.size) (by omega)).st (g:=w.heap.size) (by omega)).low (by omega),by omega,by omega,HCO.out,BO2.out,(CB2.out.set hp).set hp,but_set1 (but_set1 B2.out (Nat.le_refl _)) (Nat.le_refl _)⟩
end
section
set_option linter.unusedSimpArgs false
set_option linter.unusedVariables false
set_option maxRecDepth 100000
open Go.RowKit
end
section
set_option linter.unusedSimpArgs false
set_option linter.unusedVariables false
set_option maxRecDepth 100000
open Go.RowKit
end
section
set_option linter.unusedSimpArgs false
set_option linter.unusedVariables false
set_option maxRecDepth 100000
open Go.RowKit
end
section
set_option linter.unusedSimpArgs false
set_option linter.unusedVariables false
set_option maxRecDepth 100000
open Go.RowKit Go.Deep
end
section
set_option linter.unusedSimpArgs false
set_option linter.unusedVariables false
set_option maxRecDepth 100000
open Go.RowKit
end
section
set_option linter.unusedSimpArgs false
set_option linter.unusedVariables false
set_option maxRecDepth 100000
open Go.RowKit
theorem rnM_sz:∀ (l:List ND) {d:MD},machB d=true→(rnM d l).mem.length+szR (rnM d l).mem≤d.mem.length+szR d.mem+25 * l.length
 | [],_,_=>by simp [rnM]
 | x::r,d,h=>by
  have h1:=(stepM_sz x.who x.v h).2
  have h2:=rnM_sz r (stepM_ok x.who x.v h)
  have e:rnM d (x::r)=rnM (stepM d x.who x.v).1 r:=rfl
  rw [e,List.length_cons]
  omega
theorem rnM_cds:∀ (l:List ND) {d:MD},machB d=true→(rnM d l).codes=d.codes
 | [],_,_=>rfl
 | x::r,d,h=>(rnM_cds r (stepM_ok x.who x.v h)).trans (stepM_sz x.who x.v h).1
theorem max_at (a:Int) (w:World):Calls Tryz.prog 30 #[.int .i64 a,.int .i64 1] w fun e w'=>e=.returned (.int .i64 (if a < 1 then 1 else a))∧w'=w:=by
 by_cases h:a < 1
 ·have h1:¬ 1 < a:=by omega
  rw [if_pos h]
  go_enter Tryz.func30,Tryz.ntmps30
  go_wp2
  go_ret
  exact ⟨rfl,rfl⟩
 ·by_cases h2:a=1
  ·subst h2
   rw [if_neg h]
   go_enter Tryz.func30,Tryz.ntmps30
   go_wp2
   go_ret
   exact ⟨rfl,rfl⟩
  have h1:1 < a:=by omega
  rw [if_neg h]
  go_enter Tryz.func30,Tryz.ntmps30
  go_wp2
  go_ret
  exact ⟨rfl,rfl⟩
structure PkD (w wr:World) (p:Nat) (s:Option Addr) (n c:Nat) (m:Nat) (v:Value) (l:List ND):Prop where
 o:OwnPk wr w.heap.size v l
 le:l.length≤m
 v3:∀ x∈l,0≤x.v∧x.v≤3
 cb:CBx158 wr p s n c
 bt:But p w wr
theorem PkD.but {w wr w':World} {p n c m:Nat} {s:Option Addr} {v:Value} {l:List ND} (h:PkD w wr p s n c m v l) (hp:p < w.heap.size) (hc:CBx158 w' p s n c) (hb:But p wr w'):PkD w w' p s n c m v l:=
 ⟨ownKeep' h.o (fun k hk=>by have:=World.ownsRow.lt h.o _ hk;exact hb.block k this.2 (by omega)),h.le,h.v3,hc,h.bt.trans hb⟩
theorem PkD.add {w wr w':World} {p n c m g cap:Nat} {s:Option Addr} {v:Value} {l:List ND} {who x:Int} (h:PkD w wr p s n c m v l) (hp:p < w.heap.size) (x0:0≤x) (x1:x < 4) (ho:w'.ownsRow w.heap.size 75 2 (.slice (some ⟨g,0,none⟩) (l.length+1) cap) (l.length+1) (flatN l++[.int .i64 who,.int .i64 x])) (hg:(wr.alloc (.cells #[.int .i64 who,.int .i64 x] 75)).grownBy w' v.ownBlock):PkD w w' p s n c (m+1) (.slice (some ⟨g,0,none⟩) (l.length+1) cap) (l++[⟨who,x⟩]):=by
 have hr:∀ k,v.ownBlock=some k→w.heap.size≤k:=fun k hk=>(World.ownsRow.lt h.o _ hk).1
 refine ⟨?_,by have:=h.le;simp;omega,fun y hy=>?_,(h.cb.alloc _).grown hg (fun k hk=>by have:=hr k hk;omega),(h.bt.alloc _).grown hg hr⟩
 ·unfold OwnPk
  rw [flatN_app,List.length_append]
  exact ho
 ·rcases List.mem_append.1 hy with e | e
  ·exact h.v3 y e
  ·simp at e;subst e;exact ⟨x0,by show x≤3;omega⟩
theorem PkD.wide {w wr:World} {p n c m m':Nat} {s:Option Addr} {v:Value} {l:List ND} (h:PkD w wr p s n c m v l) (e:m≤m'):PkD w wr p s n c m' v l:=⟨h.o,Nat.le_trans h.le e,h.v3,h.cb,h.bt⟩
set_option maxRecDepth 100000 in
set_option maxHeartbeats 4000000 in
theorem drawPicks_ok (p : Nat) (s : Option Addr) (n c : Nat) (k : Nat) (most : Int) (w : World) (h : CBx158 w p s n c) (hk : k ≤ 200) (hm0 : 0 ≤ most) (hm : most ≤ 40) :
  Calls Tryz.prog 19 #[.pointer (some ⟨p,0,none⟩),.int .i64 k,.int .i64 most] w fun e w'=>∃ (v:Value) (l:List ND),e=.returned v∧PkD w w' p s n c 240 v l:=by
 have hp:=h.lt
 have H0:Hid (CBx158 w p s n c):=h
 clear h
 go_enter Tryz.func19,Tryz.ntmps19
 go_wp2_with fail
 refine (below_cb p s n c (most+1) _ (H0.out.alloc _) (by omega) (by omega)).mono ?_
 rintro e w4 ⟨q,rfl,q0,q1,hc4,hb4⟩
 have Q:Hid (0≤q∧q≤40):=by show _∧_;omega
 have P0:Hid (PkD w w4 p s n c 0 (.slice (some ⟨w.heap.size,0,none⟩) 0 0) []):=by
  refine ⟨?_,by simp,fun x hx=>by simp at hx,hc4,((But.refl _ _).alloc _).trans hb4⟩
  have h0:=World.ownsRow_lit (base:=w.heap.size) (e:=75) (size:=2) w #[] 0 (Nat.le_refl _) (by unfold maxLen;omega) rfl
  exact ownKeep' h0 (fun k hk=>by have:=World.ownsRow.lt h0 _ hk;exact hb4.block k this.2 (by omega))
 clear hc4 hb4 q0 q1
 go_wp2_with fail
 go_loopw [7,9] (fun v i wr=>∃ (j:Nat) (l:List ND),(j:Int)≤q∧i=.int .i64 j∧PkD w wr p s n c (j * 6) v l) (fun _ i _=>40 - (intOf i).toNat)
 case atStart=>exact ⟨0,[],by have:=Q.out;omega,rfl,P0.out⟩
 case round=>
  obtain ⟨j,l,hj,rfl,hd⟩:=hrel
  have D:=hidM1 hd
  clear hd
  have hzr:=D.out.bt.size
  by_cases hlt:(j:Int) < q
  ·have hj20:(j:Int) < 40:=by have:=Q.out;omega
   go_wp2_with fail
   refine (max_at (k:Int) wr).mono ?_
   rintro e w5 ⟨rfl,hw⟩
   have hw':=hw.symm
   clear hw
   subst hw'
   have g0:0 < (if (k:Int) < 1 then (1:Int) else k):=by split<;>omega
   have g1:(if (k:Int) < 1 then (1:Int) else k)≤256:=by split<;>omega
   generalize (if (k:Int) < 1 then (1:Int) else k)=cc at g0 g1 ⊢
   go_wp2_with fail
   refine (below_cb p s n c cc wr D.out.cb g0 g1).mono ?_
   rintro e w5 ⟨who,rfl,-,-,hc5,hb5⟩
   have D5:=hidM1 (D.out.but hp hc5 hb5)
   clear hc5 hb5 D g0 g1
   go_wp2_with fail
   go_loopw [7,11] (fun v i wr=>∃ (k:Nat) (l:List ND),k≤6∧i=.int .i64 k∧PkD w wr p s n c (j * 6+k) v l) (fun _ i _=>6 - (intOf i).toNat)
   case atStart=>exact ⟨0,l,by omega,rfl,D5.out⟩
   case round=>
    obtain ⟨k2,l2,hk2,rfl,hd⟩:=hrel
    have D:=hidM1 hd
    clear hd D5
    have hzr2:=D.out.bt.size
    go_wp2_with fail
    refine (below_cb p s n c 6 wr D.out.cb (by omega) (by omega)).mono ?_
    rintro e w6 ⟨x,rfl,x0,x1,hc6,hb6⟩
    have D6:=hidM1 (D.out.but hp hc6 hb6)
    have hzr3:=D6.out.bt.size
    clear hc6 hb6 D
    by_cases hl2:(k2:Int) < 1+x
    ·have hk3:k2 < 6:=by omega
     go_wp2_with fail
     refine (below_cb p s n c 4 w6 D6.out.cb (by omega) (by omega)).mono ?_
     rintro e w7 ⟨y,rfl,y0,y1,hc7,hb7⟩
     have D7:=hidM1 (D6.out.but hp hc7 hb7)
     have hzr4:=D7.out.bt.size
     have O7:Hid (OwnPk (w7.alloc (.cells #[.int .i64 who,.int .i64 y] 75)) w.heap.size u7 l2):=ownKeep' D7.out.o (fun q hq=>Below.heap_alloc w7 _ _ (World.ownsRow.lt D7.out.o _ hq).2)
     clear hc7 hb7 D6
     go_wp2_with (at_builtin;refine app_pick rfl _ _ rfl (w7.alloc (.cells #[.int .i64 who,.int .i64 y] 75)) w.heap.size u7 l2.length (flatN l2) rfl O7.out w7.heap.size (.int .i64 who) (.int .i64 y) rfl rfl rfl (by simp [go_sem]) (by simp [go_sem]) (by have:=D7.out.le;have:=Q.out;omega) (by simp;omega) ?_;intro g5 cap5 w8 ho8 hb8 hf8 hl8;have D8:=hidM1 (D7.out.add hp y0 y1 ho8 hb8);clear ho8 hb8 hf8)
     go_roundw
     case rel=>exact ⟨k2+1,l2++[⟨who,y⟩],by omega,by go_num,D8.out⟩
     case measure=>simp [intOf];omega
    ·go_wp2_with fail
     go_roundw
     case rel=>exact ⟨j+1,l2,by omega,by go_num,D6.out.wide (by omega)⟩
     case measure=>simp [intOf];have:=Q.out;omega
  ·go_wp2
   go_ret
   exact ⟨_,rfl,l,D.out.wide (by have:=Q.out;omega)⟩
end
section
set_option linter.unusedSimpArgs false
set_option linter.unusedVariables false
set_option maxRecDepth 100000
open Go.RowKit
end
section
set_option linter.unusedSimpArgs false
set_option linter.unusedVariables false
set_option maxRecDepth 100000
open Go.RowKit
def emX (cs ss:List Int) (x:I5) (fr:Int):List I5:=emitM cs ss x.o x.r x.a x.b x.n fr
def cdM (cs:List Int) (l:List I5):Nat→List I5
 | 0=>[]
 | k+1=>cdM cs l k++emX cs (stL l l.length) (l.getD k z5) (stV l k)
theorem cdM_len (cs:List Int) (l:List I5):∀ k,(cdM cs l k).length≤40 * k
 | 0=>by simp [cdM]
 | k+1=>by
  have h1:=cdM_len cs l k
  have h2:=emitM_len cs (stL l l.length) (l.getD k z5).o (l.getD k z5).r (l.getD k z5).a (l.getD k z5).b (l.getD k z5).n (stV l k)
  simp only [cdM,emX,List.length_append]
  omega
theorem sumC_bd:∀ l:List Int,(∀ c∈l,1≤c∧c≤4)→0≤sumC l∧sumC l≤8 * l.length
 | [],_=>by simp [sumC]
 | c::r,h=>by
  have h1:=sumC_bd r (fun x hx=>h x (List.mem_cons_of_mem _ hx))
  have h2:=h c (List.mem_cons_self ..)
  simp [sumC] at h1 ⊢
  omega
theorem caps_all {p:PD} (h:progB p=true):∀ c∈p.caps,1≤c∧c≤4:=fun c hc=>by
 obtain ⟨i,hi,e⟩:=List.getElem_of_mem hc
 have:=(progB_len h).2.2.2 i hi
 rw [List.getD_eq_getElem?_getD,List.getElem?_eq_getElem hi] at this
 simp at this
 rw [← e]
 exact this
theorem caps_R {p:PD} (h:progB p=true):capsR p.caps=true:=by
 unfold capsR
 rw [List.all_eq_true]
 intro c hc
 exact decide_eq_true (caps_all h c hc)
theorem base_ok {p:PD} (h:progB p=true) {n:Int} (h0:0≤n) (h1:n < p.caps.length):baseV p.caps n≠ -1:=by
 have a:=sumC_bd p.caps (caps_all h)
 have b:=sumC_bd (p.caps.take n.toNat) (fun c hc=>caps_all h c (List.mem_of_mem_take hc))
 have c:=(progB_len h).2.2.1
 unfold baseV
 rw [if_pos ⟨caps_R h,by omega,h0,h1⟩]
 omega
theorem right_ok {p:PD} (h:progB p=true):rightC p.caps=true:=by
 have a:=sumC_bd p.caps (caps_all h)
 have c:=(progB_len h).2.2.1
 unfold rightC
 rw [caps_R h,Bool.true_and]
 exact decide_eq_true (by omega)
theorem chanM_pos (o r a x rm b fr:Int):0 < (chanM o r a x rm b fr).length:=by
 unfold chanM
 repeat' split
 all_goals
  rw [togL_len]
  simp [lens,lockR,askR,faultR,openR,roundR,putR,letR,triedR,takenR,roundT,keepT,keepR,noneT,noneR,cameR]
theorem emitM_pos {cs ss:List Int} {o r a x n fr:Int} (h:Plain.insB o r a x n ss.length cs.length=true) (hb:∀ m:Int,0≤m→m < cs.length→baseV cs m≠ -1):0 < (emitM cs ss o r a x n fr).length:=by
 have h':=h
 simp only [Plain.insB,decide_eq_true_eq] at h'
 unfold emitM
 rw [if_pos h]
 repeat' split
 all_goals first | exact chanM_pos _ _ _ _ _ _ _ | (simp;done) | (exfalso;rename_i hz;exact hb n (by omega) (by omega) hz)
theorem em_pos {p:PD} (h:progB p=true) {b:Nat} (hb:b < p.bods.length) {k:Nat} (hk:k < (p.bods.getD b []).length) (fr:Int):0 < (emX p.caps (stL (p.bods.getD b []) (p.bods.getD b []).length) ((p.bods.getD b []).getD k z5) fr).length:=by
 have h1:bodyB (p.bods.getD b []) p.caps.length=true:=by
  simp only [progB,bodsB,Bool.and_eq_true,decide_eq_true_eq] at h
  exact h.2.1 b hb
 have h2:insX ((p.bods.getD b []).getD k z5) (p.bods.getD b []).length p.caps.length=true:=by
  simp only [bodyB,Bool.and_eq_true,decide_eq_true_eq] at h1
  exact h1.1 k hk
 unfold emX
 refine emitM_pos ?_ (fun m h0 h1=>base_ok h h0 h1)
 rw [stL_len]
 exact h2
theorem flat_fl:∀ l:List I5,(fl5 l).map (Value.int .i64)=flatP l
 | []=>rfl
 | x::r=>by simp [fl5,flatP,cellsP,flat_fl r]
end
section
set_option linter.unusedSimpArgs false
set_option linter.unusedVariables false
set_option maxRecDepth 100000
open Go.RowKit
def jumpM (J:Nat→Act→World→Prop) (Q:Exit→Act→World→Prop):Exit→Act→World→Prop
 | .goto l',a,w=>J l' a w
 | e,a,w=>Q e a w
theorem wp_scope_many {P : Program} {a : Act} {w : World} {Q : Exit → Act → World → Prop} {c : Code} (rest : Nat → Code) (J : Nat → Act → World → Prop) (μ : Nat → Act → World → Nat) (hf : ∀ l a w, J l a w → findLabel c l = some (rest l))
  (first:c.wp P (jumpM J Q) a w)
  (pass:∀ l a w,J l a w→(rest l).wp P (jumpM (fun l' a' w'=>J l' a' w'∧μ l' a' w' < μ l a w) Q) a w):(Code.scope c).wp P Q a w:=by
 intro b k cs
 have hg:∀ l a w,J l a w→gotoIn l (.inScope c::k)=some (.code (rest l)::.inScope c::k):=fun l a w h=>by simp [gotoIn,hf l a w h]
 have key:∀ n l a w,μ l a w=n→J l a w→∃ e a' w',Q e a' w'∧Arrives P (lone (b.at a (.code (rest l)::.inScope c::k)) cs w) b k cs e a' w':=by
  intro n
  induction n using Nat.strongRecOn with
  | _ n ih=>
   intro l a w hn hJ
   obtain ⟨e,a₁,w₁,hq,harr⟩:=pass l a w hJ b (.inScope c::k) cs
   cases e with
   | normal=>exact ⟨.normal,a₁,w₁,hq,Steps.trans harr (.one step_inScope)⟩
   | exit id=>exact ⟨.exit id,a₁,w₁,hq,fun k' hk=>harr k' (by simp [exitTo,hk])⟩
   | goto l'=>
    obtain ⟨hJ',hlt⟩:=hq
    obtain ⟨e₂,a₂,w₂,hq₂,harr₂⟩:=ih _ (by omega) l' a₁ w₁ rfl hJ'
    exact ⟨e₂,a₂,w₂,hq₂,.of_steps (harr _ (hg l' a₁ w₁ hJ')) harr₂⟩
   | ret=>exact ⟨_,a₁,w₁,hq,harr⟩
   | panic ch=>exact ⟨_,a₁,w₁,hq,harr⟩
   | outgrown=>exact ⟨_,a₁,w₁,hq,harr⟩
 obtain ⟨e,a₁,w₁,hq,harr⟩:=first b (.inScope c::k) cs
 cases e with
 | normal=>exact ⟨.normal,a₁,w₁,hq,.head step_scope (Steps.trans harr (.one step_inScope))⟩
 | exit id=>exact ⟨.exit id,a₁,w₁,hq,fun k' hk=>.head step_scope (harr k' (by simp [exitTo,hk]))⟩
 | goto l'=>
  have hJ':J l' a₁ w₁:=hq
  obtain ⟨e₂,a₂,w₂,hq₂,harr₂⟩:=key _ l' a₁ w₁ rfl hJ'
  exact ⟨e₂,a₂,w₂,hq₂,.of_steps (.head step_scope (harr _ (hg l' a₁ w₁ hJ'))) harr₂⟩
 | ret=>exact ⟨_,a₁,w₁,hq,.of_steps (.one step_scope) harr⟩
 | panic ch=>exact ⟨_,a₁,w₁,hq,.of_steps (.one step_scope) harr⟩
 | outgrown=>exact ⟨_,a₁,w₁,hq,.of_steps (.one step_scope) harr⟩
def jump2 (l0 l1:Nat) (J0 J1:Act→World→Prop) (Q:Exit→Act→World→Prop):Exit→Act→World→Prop
 | .goto l',a,w=>(l'=l0∧J0 a w)∨(l'=l1∧J1 a w)
 | e,a,w=>Q e a w
theorem wp_post {P:Program} {a:Act} {w:World} {Q Q':Exit→Act→World→Prop} {c:Code} (h:c.wp P Q a w) (hq:∀ e a w,Q e a w→Q' e a w):c.wp P Q' a w:=by
 intro b k cs
 obtain ⟨e,a',w',h1,h2⟩:=h b k cs
 exact ⟨e,a',w',hq _ _ _ h1,h2⟩
theorem wp_scope_two {P : Program} {a : Act} {w : World} {Q : Exit → Act → World → Prop} {c rest0 rest1 : Code} (l0 l1 : Nat) (J0 J1 : Act → World → Prop) (μ0 μ1 : Act → World → Nat) (hf0 : findLabel c l0 = some rest0) (hf1 : findLabel c l1 = some rest1) (hne : l0 ≠ l1)
  (first:c.wp P (jump2 l0 l1 J0 J1 Q) a w)
  (pass0:∀ a w,J0 a w→rest0.wp P (jump2 l0 l1 (fun a' w'=>J0 a' w'∧μ0 a' w' < μ0 a w) (fun a' w'=>J1 a' w'∧μ1 a' w' < μ0 a w) Q) a w)
  (pass1:∀ a w,J1 a w→rest1.wp P (jump2 l0 l1 (fun a' w'=>J0 a' w'∧μ0 a' w' < μ1 a w) (fun a' w'=>J1 a' w'∧μ1 a' w' < μ1 a w) Q) a w):(Code.scope c).wp P Q a w:=by
 refine wp_scope_many (fun l=>if l=l0 then rest0 else rest1) (fun l a w=>(l=l0∧J0 a w)∨(l=l1∧J1 a w)) (fun l a w=>if l=l0 then μ0 a w else μ1 a w) ?_ ?_ ?_
 ·rintro l a w (⟨rfl,-⟩ | ⟨rfl,-⟩)
  ·simp [hf0]
  ·simp [hf1,Ne.symm hne]
 ·refine wp_post first fun e a w h=>?_
  cases e<;>exact h
 ·rintro l a w (⟨rfl,hJ⟩ | ⟨rfl,hJ⟩)
  ·rw [if_pos rfl]
   refine wp_post (pass0 a w hJ) fun e a' w' h=>?_
   cases e with
   | goto l'=>
    rcases h with ⟨rfl,h⟩ | ⟨rfl,h⟩
    ·exact ⟨.inl ⟨rfl,h.1⟩,by simpa using h.2⟩
    ·exact ⟨.inr ⟨rfl,h.1⟩,by simpa [Ne.symm hne] using h.2⟩
   | _=>exact h
  ·rw [if_neg (Ne.symm hne)]
   refine wp_post (pass1 a w hJ) fun e a' w' h=>?_
   cases e with
   | goto l'=>
    rcases h with ⟨rfl,h⟩ | ⟨rfl,h⟩
    ·exact ⟨.inl ⟨rfl,h.1⟩,by simpa [Ne.symm hne] using h.2⟩
    ·exact ⟨.inr ⟨rfl,h.1⟩,by simpa [Ne.symm hne] using h.2⟩
   | _=>exact h
end
end Go.Proofs.YtkhjhibigldcgaaGreat
