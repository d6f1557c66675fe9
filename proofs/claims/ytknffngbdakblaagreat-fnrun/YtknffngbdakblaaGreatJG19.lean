/- DrawInsOk and DrawBodyOk: what they draw lies in new memory; nothing that was there is turned. Conditions: the bytes lie in memory as the reading says. Rows of numbers and rows of rows that a draw makes and grows. No condition. l1DrawRight: a program is drawn into new memory; the cursor's own block alone is turned. Conditions: the cursor and its bytes lie in memory as the reading says. A program and a source as l4DrawRun draws them are right. No condition. What l4Draw goes by: a program and a source in their boxes, ahead of the spoiling and behind it. No condition. l1Draw and DrawProgOk: a program is drawn and perhaps spoiled. Conditions: the bytes lie in memory as the reading says. -/
import Derived.Test.YtknffngbdakblaaGreatJG00
import Derived.Test.YtknffngbdakblaaGreatJG18
import Derived.Test.YtknffngbdakblaaGreatJG01
import Derived.Test.YtknffngbdakblaaGreatJDrawB
import Derived.Test.YtknffngbdakblaaGreatJG16
import Derived.Deep.RegionLaw
import Derived.Test.YtknffngbdakblaaGreatJG11
import Derived.Test.YtknffngbdakblaaGreatJG06
import Derived.Test.YtknffngbdakblaaGreatJG09
import Derived.Test.YtknffngbdakblaaGreatJG12
import Derived.Test.YtknffngbdakblaaGreatJProgOk
import Derived.Test.YtknffngbdakblaaGreatJG17
import Derived.Test.YtknffngbdakblaaGreatJBody
import Derived.Test.YtknffngbdakblaaGreatJG08
import Derived.Test.YtknffngbdakblaaGreatJG03
namespace Go.Proofs.YtknffngbdakblaaGreat
section
set_option linter.unusedSimpArgs false
set_option linter.unusedVariables false
set_option maxRecDepth 100000
open Go.RowKit Go.Deep
theorem OwnI.form {w:World} {base n:Nat} {v:Value} (h:OwnI w base v n) (hn:0 < n):∃ g cap,v=.slice (some ⟨g,0,none⟩) n cap∧base≤g∧g < w.heap.size:=by
 obtain ⟨xs,h1,-⟩:=h
 exact h1.form hn
theorem OwnI.mono {w:World} {base base' n:Nat} {v:Value} (h:OwnI w base v n) (hb:base'≤base):OwnI w base' v n:=by
 obtain ⟨xs,⟨h1,h2⟩,h3⟩:=h
 refine ⟨xs,⟨h1,?_⟩,h3⟩
 rcases h2 with h2 | ⟨g,cap,cur,hv,hb',hr⟩
 ·exact .inl h2
 ·exact .inr ⟨g,cap,cur,hv,by omega,hr⟩
theorem OwnI.at {w:World} {base n g cap k:Nat} (h:OwnI w base (.slice (some ⟨g,0,none⟩) n cap) n) (hk:k < n):∃ z0 z1 z2 z3 z4:Int,w.cell? ⟨g,k * 5,none⟩=some (.int .i64 z0)∧w.cell? ⟨g,k * 5+1,none⟩=some (.int .i64 z1)∧w.cell? ⟨g,k * 5+2,none⟩=some (.int .i64 z2)∧w.cell? ⟨g,k * 5+3,none⟩=some (.int .i64 z3)∧w.cell? ⟨g,k * 5+4,none⟩=some (.int .i64 z4)∧(∀ j,j < 5→w.frozen? ⟨g,k * 5+j,none⟩=false):=by
 obtain ⟨xs,h1,h2⟩:=h
 have C:∀ j,j < 5→∃ z:Int,w.cell? ⟨g,k * 5+j,none⟩=some (.int .i64 z):=fun j hj=>by
  obtain ⟨u,h3,h4,-⟩:=own_cell (k:=k * 5+j) h1 (by omega)
  obtain ⟨z,rfl⟩:=h2 u h4
  exact ⟨z,h3⟩
 obtain ⟨z0,c0⟩:=C 0 (by omega)
 obtain ⟨z1,c1⟩:=C 1 (by omega)
 obtain ⟨z2,c2⟩:=C 2 (by omega)
 obtain ⟨z3,c3⟩:=C 3 (by omega)
 obtain ⟨z4,c4⟩:=C 4 (by omega)
 exact ⟨z0,z1,z2,z3,z4,c0,c1,c2,c3,c4,fun j hj=>(own_cell (k:=k * 5+j) h1 (by omega)).choose_spec.2.2.1⟩
end
section
set_option linter.unusedSimpArgs false
set_option linter.unusedVariables false
set_option maxRecDepth 100000
open Go.RowKit Go.Deep
/- v is a row of n bodies of 1 to 12 places each -/
def OwnSx111 (w:World) (base:Nat) (v:Value) (n:Nat):Prop:=∃ xs,w.ownsRow base 62 1 v n xs∧∀ u∈xs,∃ m,1≤m∧m≤12∧OwnI w base u m
theorem OwnSx111.but {w w':World} {base n p:Nat} {v:Value} (h:OwnSx111 w base v n) (hb:But p w w') (hp:p < base):OwnSx111 w' base v n:=by
 obtain ⟨xs,h1,h2⟩:=h
 refine ⟨xs,own_block h1 (fun k h3 h4=>hb.block k h4 (by omega)),fun u hu=>?_⟩
 obtain ⟨m,m1,m2,h3⟩:=h2 u hu
 exact ⟨m,m1,m2,h3.but hb hp⟩
theorem OwnSx111.keep {w w':World} {base n:Nat} {v:Value} (h:OwnSx111 w base v n) (hb:Below w.heap.size w w'):OwnSx111 w' base v n:=by
 obtain ⟨xs,h1,h2⟩:=h
 refine ⟨xs,own_block h1 (fun k h3 h4=>hb.block k h4),fun u hu=>?_⟩
 obtain ⟨m,m1,m2,h3⟩:=h2 u hu
 exact ⟨m,m1,m2,h3.keep hb⟩
theorem OwnSx111.nil (w:World) (base:Nat):OwnSx111 w base (.slice none 0 0) 0:=⟨[],⟨rfl,.inl ⟨rfl,rfl⟩⟩,fun u hu=>by cases hu⟩
theorem OwnC.nil (w:World) (base:Nat):OwnC w base (.slice none 0 0) 0:=⟨[],⟨rfl,.inl ⟨rfl,rfl⟩⟩,fun u hu=>by cases hu⟩
/- the block of a row, and its element type -/
def RowOf (w:World) (row:Option Nat) (E:TypeId):Prop:=∀ k,row=some k→∃ cur fr,w.heap[k]? =some (.cells cur E fr)
theorem row_of {w:World} {base size n:Nat} {e:TypeId} {v:Value} {xs:List Value} (h:w.ownsRow base e size v n xs):RowOf w v.ownBlock e:=by
 intro k hk
 rcases h.2 with ⟨rfl,-⟩ | ⟨g,cap,cur,rfl,hb,hg,-⟩
 ·cases hk
 ·simp [Value.ownBlock] at hk
  subst hk
  exact ⟨cur,(0,0),hg⟩
theorem own_far {w w':World} {base size n:Nat} {e E:TypeId} {v:Value} {xs:List Value} {row:Option Nat} (h:w.ownsRow base e size v n xs) (hg:w.grownBy w' row) (hr:RowOf w row E) (hE:e≠E):w'.ownsRow base e size v n xs:=by
 obtain ⟨h1,h2⟩:=h
 refine ⟨h1,?_⟩
 rcases h2 with h2 | ⟨g,cap,cur,hv,hb,hgg,h3⟩
 ·exact .inl h2
 ·have hlt:g < w.heap.size:=by
   apply Classical.byContradiction
   intro hn
   rw [Array.getElem?_eq_none (by omega)] at hgg
   cases hgg
  refine .inr ⟨g,cap,cur,hv,hb,(hg.block g hlt ?_).trans hgg,h3⟩
  intro e'
  obtain ⟨cur',fr',h4⟩:=hr g e'.symm
  rw [hgg] at h4
  cases h4
  exact hE rfl
theorem OwnI.far {w w':World} {base n:Nat} {E:TypeId} {v:Value} {row:Option Nat} (h:OwnI w base v n) (hg:w.grownBy w' row) (hr:RowOf w row E) (hE:85≠E):OwnI w' base v n:=by
 obtain ⟨xs,h1,h2⟩:=h
 exact ⟨xs,own_far h1 hg hr hE,h2⟩
theorem OwnC.far {w w':World} {base n:Nat} {E:TypeId} {v:Value} {row:Option Nat} (h:OwnC w base v n) (hg:w.grownBy w' row) (hr:RowOf w row E) (hE:3≠E):OwnC w' base v n:=by
 obtain ⟨xs,h1,h2⟩:=h
 exact ⟨xs,own_far h1 hg hr hE,h2⟩
theorem OwnSx111.far {w w':World} {base n:Nat} {E:TypeId} {v:Value} {row:Option Nat} (h:OwnSx111 w base v n) (hg:w.grownBy w' row) (hr:RowOf w row E) (hE:62≠E) (hE':85≠E):OwnSx111 w' base v n:=by
 obtain ⟨xs,h1,h2⟩:=h
 refine ⟨xs,own_far h1 hg hr hE,fun u hu=>?_⟩
 obtain ⟨m,m1,m2,h3⟩:=h2 u hu
 exact ⟨m,m1,m2,h3.far hg hr hE'⟩
theorem OwnC.set {w:World} {base n g' k:Nat} {v:Value} (h:OwnC w base v n) (z:Int):OwnC (w.setCell ⟨g',k,none⟩ (.int .i64 z)) base v n:=by
 obtain ⟨xs,⟨h1,h2⟩,h3⟩:=h
 rcases h2 with h2 | ⟨g,cap,cur,rfl,hb,hg,hr⟩
 ·exact ⟨xs,⟨h1,.inl h2⟩,h3⟩
 ·by_cases e:g=g'
  ·subst e
   have:=(World.ownsRow.stored (w:=w) (base:=base) (e:=3) (size:=1) (g:=g) (n:=n) (cap:=cap) (xs:=xs) ⟨h1,.inr ⟨g,cap,cur,rfl,hb,hg,hr⟩⟩ k (.int .i64 z)).1
   exact ⟨_,this,h3.set k z⟩
  ·refine ⟨xs,⟨h1,.inr ⟨g,cap,cur,rfl,hb,?_,hr⟩⟩,h3⟩
   rw [Below.heap_setCell w ⟨g',k,none⟩ _ g e]
   exact hg
/- a number stored into a block that is no row of bodies -/
theorem OwnSx111.set {w:World} {base n g' k:Nat} {v:Value} {cur':Array Value} {E:TypeId} {fr':Nat×Nat} (h:OwnSx111 w base v n) (hE:w.heap[g']? =some (.cells cur' E fr')) (hne:62≠E) (z:Int):OwnSx111 (w.setCell ⟨g',k,none⟩ (.int .i64 z)) base v n:=by
 obtain ⟨xs,⟨h1,h2⟩,h3⟩:=h
 refine ⟨xs,⟨h1,?_⟩,fun u hu=>?_⟩
 ·rcases h2 with h2 | ⟨g,cap,cur,rfl,hb,hg,hr⟩
  ·exact .inl h2
  ·refine .inr ⟨g,cap,cur,rfl,hb,?_,hr⟩
   rw [Below.heap_setCell w ⟨g',k,none⟩ _ g ?_]
   ·exact hg
   ·intro e
    simp at e
    subst e
    rw [hg] at hE
    cases hE
    exact hne rfl
 ·obtain ⟨m,m1,m2,h4⟩:=h3 u hu
  exact ⟨m,m1,m2,h4.set z⟩
/- anything stored into a block below base -/
theorem own_low {w:World} {base size n:Nat} {e:TypeId} {v:Value} {xs:List Value} {a:Addr} {x:Value} (h:w.ownsRow base e size v n xs) (ha:a.block < base):(w.setCell a x).ownsRow base e size v n xs:=by
 obtain ⟨h1,h2⟩:=h
 refine ⟨h1,?_⟩
 rcases h2 with h2 | ⟨g,cap,cur,hv,hb,hg,h3⟩
 ·exact .inl h2
 ·exact .inr ⟨g,cap,cur,hv,hb,(Below.heap_setCell w a x g (by omega)).trans hg,h3⟩
theorem OwnI.low {w:World} {base n:Nat} {v x:Value} {a:Addr} (h:OwnI w base v n) (ha:a.block < base):OwnI (w.setCell a x) base v n:=by
 obtain ⟨xs,h1,h2⟩:=h
 exact ⟨xs,own_low h1 ha,h2⟩
theorem OwnC.low {w:World} {base n:Nat} {v x:Value} {a:Addr} (h:OwnC w base v n) (ha:a.block < base):OwnC (w.setCell a x) base v n:=by
 obtain ⟨xs,h1,h2⟩:=h
 exact ⟨xs,own_low h1 ha,h2⟩
theorem OwnSx111.low {w:World} {base n:Nat} {v x:Value} {a:Addr} (h:OwnSx111 w base v n) (ha:a.block < base):OwnSx111 (w.setCell a x) base v n:=by
 obtain ⟨xs,h1,h2⟩:=h
 refine ⟨xs,own_low h1 ha,fun u hu=>?_⟩
 obtain ⟨m,m1,m2,h3⟩:=h2 u hu
 exact ⟨m,m1,m2,h3.low ha⟩
theorem OwnSx111.bods {w:World} {base n:Nat} {v:Value} (h:OwnSx111 w base v n):∃ (s:Option Addr) (c:Nat) (l:List (List I5)),v=.slice s l.length c∧l.length=n∧(∀ i,i < l.length→(l.getD i []).length≤12)∧BodsR w base w.heap.size s l:=by
 obtain ⟨xs,h1,h2⟩:=h
 rcases h1.2 with ⟨rfl,rfl⟩ | ⟨g,cap,cur,rfl,hb,hg,hr⟩
 ·exact ⟨none,0,[],rfl,rfl,fun i hi=>absurd hi (Nat.not_lt_zero _),.inl rfl⟩
 ·obtain ⟨L,hL⟩:=@choose_lt (List I5) ⟨[]⟩ n (fun k l=>BodR w base w.heap.size g (0+k) l∧l.length≤12) (fun k hk=>by
   obtain ⟨u,h3,h4,-⟩:=own_cell h1 (k:=k) (by omega)
   obtain ⟨m,m1,m2,h5⟩:=h2 u h4
   obtain ⟨s,c,l,hv,hl,hi⟩:=h5.ins
   rw [hv] at h3
   exact ⟨l,⟨s,c,by rw [Nat.zero_add];exact h3,hi⟩,by omega⟩)
  have e:∀ i,i < n→((List.range n).map L).getD i []=L i:=fun i hi=>by simp [hi]
  refine ⟨some ⟨g,0,none⟩,cap,(List.range n).map L,by simp,by simp,?_,?_⟩
  ·intro i hi
   simp at hi
   rw [e i hi]
   exact (hL i hi).2
  ·by_cases h0:n=0
   ·left;subst h0;rfl
   ·right
    obtain ⟨u,-,-,-,h5,h6⟩:=own_cell (k:=0) h1 (by omega)
    refine ⟨g,0,rfl,h5,h6,?_⟩
    intro i hi
    simp at hi
    rw [e i hi]
    exact (hL i hi).1
theorem info3:∃ i,Tryz.prog.info? 3=some i∧i.zero=some (.int .i64 0)∧i.size=1∧i.bytes=8:=⟨_,rfl,rfl,rfl,rfl⟩
/- append of one number, as a step of a region that draws its order -/
theorem app_caps {ops : Array Oper} {o : Oper} {a : Act} {K : Act → World → Prop} {Q : Exit → Act → World → Prop} {F : Prop} (hgd : o.guard = none) (s x : Operand) (ho : o.op = .call { callee := .builtin .append, args := #[s, x], argTypes := #[24, 24] })
  (w:World) (z:Int) (base n:Nat) (v:Value) (hs:a.eval s=v) (hown:OwnC w base v n) (hx:a.eval x=.slice (some ⟨w.heap.size,0,none⟩) 1 1) (hn:n≤1000) (hbase:base≤w.heap.size)
  (h:∀ g cap w',OwnC w' base (.slice (some ⟨g,0,none⟩) (n+1) cap) (n+1)→(w.alloc (.cells #[.int .i64 z] 3)).grownBy w' v.ownBlock→(∀ k,v.ownBlock=some k→base≤k)→RowOf w v.ownBlock 3→K (a.put o.dst (.slice (some ⟨g,0,none⟩) (n+1) cap)) w'):
  if Region.wanted o (yielded ops a.tmps)=true then Oper.wp Tryz.prog o a (w.alloc (.cells #[.int .i64 z] 3)) K Q else F:=by
 obtain ⟨i0,hi,hz0,hz1,hz2⟩:=info3
 obtain ⟨xs,h1,h2⟩:=hown
 have h1':=own_block (w':=w.alloc (.cells #[.int .i64 z] 3)) h1 (fun k _ hk=>Below.heap_alloc _ _ _ hk)
 refine step_append_lies _ hgd s x 24 ho base 3 i0 _ 1 8 Tryz.underlying24 hi hz0 hz1 hz2 rfl (by decide) v n xs hs h1' ⟨w.heap.size,0,none⟩ 1 1 [.int .i64 z] hx rfl (new1 w _ _) (fun u hu=>by simp at hu;subst hu;rfl) (by decide) (by unfold maxLen;omega) (by omega) (by simp;omega) _ rfl ?_
 intro g cap w' q1 q2 q3 q4
 exact h g cap w' ⟨_,q1,h2.append (allInt_cons _ allInt_nil)⟩ q2 (own_row h1) (row_of h1)
/- append of one body, as a step of a region that draws its order -/
theorem app_bods {ops : Array Oper} {o : Oper} {a : Act} {K : Act → World → Prop} {Q : Exit → Act → World → Prop} {F : Prop} (hgd : o.guard = none) (s x : Operand) (ho : o.op = .call { callee := .builtin .append, args := #[s, x], argTypes := #[25, 25] })
  (w:World) (y:Value) (m base n:Nat) (v:Value) (hs:a.eval s=v) (hown:OwnSx111 w base v n) (hy:OwnI w base y m) (hm1:1≤m) (hm2:m≤12) (hx:a.eval x=.slice (some ⟨w.heap.size,0,none⟩) 1 1) (hn:n≤1000) (hbase:base≤w.heap.size)
  (h:∀ g cap w',OwnSx111 w' base (.slice (some ⟨g,0,none⟩) (n+1) cap) (n+1)→(w.alloc (.cells #[y] 62)).grownBy w' v.ownBlock→(∀ k,v.ownBlock=some k→base≤k)→RowOf (w.alloc (.cells #[y] 62)) v.ownBlock 62→K (a.put o.dst (.slice (some ⟨g,0,none⟩) (n+1) cap)) w'):
  if Region.wanted o (yielded ops a.tmps)=true then Oper.wp Tryz.prog o a (w.alloc (.cells #[y] 62)) K Q else F:=by
 obtain ⟨i0,hi,hz0,hz1,hz2⟩:=info29
 obtain ⟨xs,h1,h2⟩:=hown
 have ka:Below w.heap.size w (w.alloc (.cells #[y] 62)):=(Below.refl _ _).alloc (Nat.le_refl _) _
 have h1':=own_block (w':=w.alloc (.cells #[y] 62)) h1 (fun k _ hk=>Below.heap_alloc _ _ _ hk)
 have hone:y.oneCell'=true:=by
  obtain ⟨ys,⟨-,q⟩,-⟩:=hy
  rcases q with ⟨rfl,-⟩ | ⟨g,cap,cur,rfl,-⟩<;>rfl
 refine step_append_lies _ hgd s x 25 ho base 62 i0 _ 1 24 Tryz.underlying25 hi hz0 hz1 hz2 rfl (by decide) v n xs hs h1' ⟨w.heap.size,0,none⟩ 1 1 [y] hx rfl (new1 w _ _) (fun u hu=>by simp at hu;subst hu;exact hone) (by decide) (by unfold maxLen;omega) (by omega) (by simp;omega) _ rfl ?_
 intro g cap w' q1 q2 q3 q4
 refine h g cap w' ⟨_,q1,?_⟩ q2 (own_row h1) (row_of h1')
 intro u hu
 rcases List.mem_append.1 hu with h3 | h3
 ·obtain ⟨k,k1,k2,h4⟩:=h2 u h3
  exact ⟨k,k1,k2,(h4.keep ka).far q2 (row_of h1') (by decide)⟩
 ·simp at h3
  subst h3
  exact ⟨m,hm1,hm2,(hy.keep ka).far q2 (row_of h1') (by decide)⟩
end
section
set_option linter.unusedSimpArgs false
set_option linter.unusedVariables false
set_option maxRecDepth 100000
open Go.RowKit Go.Deep
theorem OwnC.mono {w:World} {base base' n:Nat} {v:Value} (h:OwnC w base v n) (hb:base'≤base):OwnC w base' v n:=by
 obtain ⟨xs,h1,h2⟩:=h
 exact ⟨xs,own_mono h1 hb,h2⟩
theorem OwnSx111.mono {w:World} {base base' n:Nat} {v:Value} (h:OwnSx111 w base v n) (hb:base'≤base):OwnSx111 w base' v n:=by
 obtain ⟨xs,h1,h2⟩:=h
 refine ⟨xs,own_mono h1 hb,fun u hu=>?_⟩
 obtain ⟨m,m1,m2,h3⟩:=h2 u hu
 exact ⟨m,m1,m2,h3.mono hb⟩
theorem OwnI.sl {w:World} {base n:Nat} {v:Value} (h:OwnI w base v n):∃ (s:Option Addr) (c:Nat),v=.slice s n c:=by
 obtain ⟨xs,h1,-⟩:=h
 exact own_sl h1
theorem OwnC.sl {w:World} {base n:Nat} {v:Value} (h:OwnC w base v n):∃ (s:Option Addr) (c:Nat),v=.slice s n c:=by
 obtain ⟨xs,h1,-⟩:=h
 exact own_sl h1
theorem OwnSx111.sl {w:World} {base n:Nat} {v:Value} (h:OwnSx111 w base v n):∃ (s:Option Addr) (c:Nat),v=.slice s n c:=by
 obtain ⟨xs,h1,-⟩:=h
 exact own_sl h1
theorem ent_pick (args:Array Value) (w:World):(callFunc 41 args).run Tryz.prog w=.ok (.enter 41 args) w:=by kernel_rfl
theorem ent_spoil (args:Array Value) (w:World):(callFunc 60 args).run Tryz.prog w=.ok (.enter 60 args) w:=by kernel_rfl
set_option maxRecDepth 100000 in
set_option maxHeartbeats 4000000 in
theorem drawRight_cb (p : Nat) (s : Option Addr) (n c : Nat) (w : World) (h : CB w p s n c) :
  Calls Tryz.prog 58 #[.pointer (some ⟨p,0,none⟩)] w fun e w'=>∃ (v0 v1:Value) (a b:Nat),e=.returned (.agg #[v0,v1])∧OwnC w' w.heap.size v0 a∧OwnSx111 w' w.heap.size v1 b∧1≤a∧a≤3∧1≤b∧b≤4∧CB w' p s n c∧But p w w':=by
 have hp:=h.lt
 have H0:Hid (Pr w ((w.alloc (.cells #[.slice none 0 0,.slice none 0 0] 27)).alloc (.cells #[.slice none 0 0,.slice none 0 0] 27)) p s n c w.heap.size (.slice none 0 0) (.slice none 0 0)):=pr_new w p n c s _ _ _ _ _ _ h
 clear h
 go_enter Tryz.func58,Tryz.ntmps58
 go_wp2_with fail
 refine (below_cb p s n c 3 _ H0.out.cb (by omega) (by omega)).mono ?_
 rintro e w1 ⟨x,rfl,x0,x1,hc1,hb1⟩
 have H1:Hid (Pr w w1 p s n c w.heap.size (.slice none 0 0) (.slice none 0 0)):=H0.out.step hc1 hb1
 clear hc1 hb1 H0
 go_wp2
 go_loopw [5] (fun i wr=>∃ (j:Nat) (v0:Value),(j:Int)≤1+x∧i=.int .i64 j∧Pr w wr p s n c w.heap.size v0 (.slice none 0 0)∧OwnC wr (w.heap.size+2) v0 j) (fun i _=>4 - (intOf i).toNat)
 case atStart=>exact ⟨0,_,by omega,rfl,H1.out,OwnC.nil _ _⟩
 case round=>
  obtain ⟨j,v0,hj,rfl,hpr,how⟩:=hrel
  have HP:Hid (Pr w wr p s n c w.heap.size v0 (.slice none 0 0)):=hpr
  have HW:Hid (OwnC wr (w.heap.size+2) v0 j):=how
  clear hpr how
  by_cases hlt:(j:Int) < 1+x
  ·have c0:=HP.out.c0
   go_wp2_with fail
   first | go_region_law (first | (refine app_caps (by rfl) _ _ (by rfl) w5 (IntKind.i64.wrap (1+y)) (w.heap.size+2) j v0 (by rfl) ((HW.out.keep (w':=wr.drew) (Below.drew (Below.refl _ _))).but hb5 (by omega)) (by rfl) (by omega) P5.lt ?_;intro g cap w6 ho6 hg6 hr6 hrow6;have P6:=(P5.alloc _).grown hg6 hr6;have d2:=P6.c0;have d3:=P6.fP) | (refine step_call 25 #[.pointer (some ⟨p,0,none⟩),.int .i64 4] (by rfl) _ _ (by rfl) (by simp [go_sem]) ent_below ?_;refine (below_cb p s n c 4 wr.drew HP.out.drew.cb (by omega) (by omega)).mono ?_;rintro e w5 ⟨y,rfl,y0,y1,hc5,hb5⟩;have P5:=HP.out.drew.step hc5 hb5;have d0:=P5.c0;have l5:=P5.lt;refine ⟨_,rfl,?_⟩)) | fail
   all_goals
    clear c0 d0 d2 d3
    have H6:Hid (Pr w w6 p s n c w.heap.size v0 (.slice none 0 0)):=P6
    have O6:Hid (OwnC w6 (w.heap.size+2) (.slice (some ⟨g,0,none⟩) (j+1) cap) (j+1)):=ho6
    clear P6 ho6 P5 hb5 hc5
    go_wp2
    go_roundw
    case rel=>exact ⟨j+1,_,by omega,by go_num,H6.out.set0 _,O6.out.low (by simp)⟩
    case measure=>simp [intOf];omega
  ·have hjx:Hid ((j:Int)=1+x):=by show _=_;omega
   go_wp2
   go_loopw [6] (fun i wr=>∃ (k:Nat) (v1:Value),k≤4∧i=.int .i64 k∧Pr w wr p s n c w.heap.size v0 v1∧OwnC wr (w.heap.size+2) v0 j∧OwnSx111 wr (w.heap.size+2) v1 k) (fun i _=>4 - (intOf i).toNat)
   case atStart=>exact ⟨0,_,by omega,rfl,HP.out,HW.out,OwnSx111.nil _ _⟩
   case round=>
    obtain ⟨k,v1,hk,rfl,hpr,hoc,hos⟩:=hrel
    have P1:Hid (Pr w wr p s n c w.heap.size v0 v1):=hpr
    have C1:Hid (OwnC wr (w.heap.size+2) v0 j):=hoc
    have S1:Hid (OwnSx111 wr (w.heap.size+2) v1 k):=hos
    clear hpr hoc hos HP HW
    go_wp2_with fail
    refine (below_cb p s n c 4 wr P1.out.cb (by omega) (by omega)).mono ?_
    rintro e w2 ⟨y,rfl,y0,y1,hc2,hb2⟩
    have P2:Hid (Pr w w2 p s n c w.heap.size v0 v1):=P1.out.step hc2 hb2
    have C2:Hid (OwnC w2 (w.heap.size+2) v0 j):=C1.out.but hb2 (by omega)
    have S2:Hid (OwnSx111 w2 (w.heap.size+2) v1 k):=S1.out.but hb2 (by omega)
    clear hc2 hb2 P1 C1 S1
    by_cases hlt':(k:Int) < 1+y
    ·have c1:=P2.out.c1
     have l2:=P2.out.lt
     go_wp2_with fail
     first | go_region_law (first | (refine app_bods (by rfl) _ _ (by rfl) w5 (.slice sl m cp) m (w.heap.size+2) k v1 (by rfl) ((S2.out.keep (w':=w2.drew) (Below.drew (Below.refl _ _))).but hb5 (by omega)) (ho5.mono (by simp;omega)) m1 m2 (by rfl) (by omega) l5 ?_;intro g cap w6 ho6 hg6 hr6 hrow6;have P6:=(P5.alloc _).grown hg6 hr6;have d2:=P6.c1;have d3:=P6.fP) | (refine step_call 82 #[.pointer (some ⟨p,0,none⟩),.int .i64 (1+x)] (by rfl) _ _ (by rfl) (by simp [go_sem]) ent_body ?_;refine (drawBody_cb p s n c (1+x) w2.drew P2.out.drew.cb (by omega) (by omega)).mono ?_;rintro e w5 ⟨yv,m,rfl,ho5,m1,m2,hc5,hb5⟩;have P5:=P2.out.drew.step hc5 hb5;have d0:=P5.c1;have l5:=P5.lt;obtain ⟨sl,cp,rfl⟩:=ho5.sl;refine ⟨_,rfl,?_⟩)) | fail
     all_goals
      clear c1 d0 d2 d3
      have H6:Hid (Pr w w6 p s n c w.heap.size v0 v1):=P6
      have O6:Hid (OwnSx111 w6 (w.heap.size+2) (.slice (some ⟨g,0,none⟩) (k+1) cap) (k+1)):=ho6
      have C6:Hid (OwnC w6 (w.heap.size+2) v0 j):=(((C2.out.keep (w':=w2.drew) (Below.drew (Below.refl _ _))).but hb5 (by omega)).keep ((Below.refl _ _).alloc (Nat.le_refl _) _)).far hg6 hrow6 (by decide)
      clear P6 ho6 P5 hb5 hc5 ho5
      go_wp2
      go_roundw
      case rel=>exact ⟨k+1,_,by omega,by go_num,H6.out.set1 _,C6.out.low (by simp),O6.out.low (by simp)⟩
      case measure=>simp [intOf];omega
    ·obtain ⟨s0,a0,rfl⟩:=C2.out.sl
     obtain ⟨s1,a1,rfl⟩:=S2.out.sl
     have c0:=P2.out.c0
     have c1:=P2.out.c1
     have l2:=P2.out.lt
     obtain ⟨q0,g0⟩:=Option.isSome_iff_exists.1 P2.out.r0
     obtain ⟨q1,g1⟩:=Option.isSome_iff_exists.1 P2.out.r1
     have fz:=P2.out.fR
     have hjj:=hjx.out
     have B2:Hid (But p w w2):=P2.out.but
     have CB2:Hid (CB w2 p s n c):=P2.out.cb
     go_wp2
     exact bodyPost_ret (v:=.agg #[.slice s0 j a0,.slice s1 k a1]) (by simp [results,Tryz.results58,go_sem,g0,g1]) rfl ⟨_,_,j,k,rfl,((C2.out.low (by simp)).low (by simp)).mono (by omega),((S2.out.low (by simp)).low (by simp)).mono (by omega),by omega,by omega,by omega,by omega,(CB2.out.set hp).set hp,but_set1 (but_set1 B2.out (Nat.le_refl _)) (Nat.le_refl _)⟩
end
section
set_option linter.unusedSimpArgs false
set_option linter.unusedVariables false
set_option maxRecDepth 100000
open Go.RowKit
theorem prog_ok {pd:PD} (h1:1≤pd.caps.length∧pd.caps.length≤3) (h2:1≤pd.bods.length∧pd.bods.length≤4) (h3:CapsOk pd.caps) (h4:BodsOk pd.bods pd.caps.length):progB pd=true:=by
 unfold progB capsB bodsB
 simp only [Bool.and_eq_true,decide_eq_true_eq]
 refine ⟨fun i hi=>?_,fun i hi=>?_,h1.2,?_⟩
 ·have:=h3 (pd.caps.getD i 0) (by rw [List.getD_eq_getElem?_getD,List.getElem?_eq_getElem hi];exact List.getElem_mem hi)
  exact decide_eq_true ⟨this.1,this.2⟩
 ·exact (h4 (pd.bods.getD i []) (by rw [List.getD_eq_getElem?_getD,List.getElem?_eq_getElem hi];exact List.getElem_mem hi)).1
 ·exact decide_eq_true ⟨by omega,by omega⟩
theorem body_pos {l:List I5} {ch:Int} (h:bodyB l ch=true):1≤l.length:=by
 unfold bodyB at h
 simp only [Bool.and_eq_true,decide_eq_true_eq] at h
 omega
theorem srcB_new {pd:PD} (h:progB pd=true) (hb:BodsOk pd.bods pd.caps.length) (hc:CapsOk pd.caps):srcB pd (newS pd)=true:=by
 unfold srcB
 rw [h]
 simp only [Bool.true_and,Bool.and_eq_true]
 refine ⟨?_,?_,?_⟩
 ·unfold thsB allB
  simp only [Bool.and_eq_true,decide_eq_true_eq]
  refine ⟨by simp [newS],fun i t ht=>?_⟩
  have hi:i < pd.bods.length:=by have:=(List.getElem?_eq_some_iff.1 ht).1;simpa [newS] using this
  have et:t=⟨0,[0,0,0,0],0⟩:=by
   simp [newS,List.getElem?_replicate,hi] at ht
   exact ht.symm
  subst et
  have:=body_pos (hb (pd.bods.getD i []) (by rw [List.getD_eq_getElem?_getD,List.getElem?_eq_getElem hi];exact List.getElem_mem hi)).1
  unfold thB
  simp only [Bool.and_eq_true,decide_eq_true_eq]
  exact ⟨rfl,decide_eq_true ⟨by show (0:Int)≤0;omega,by show (0:Int)≤2;omega⟩,decide_eq_true ⟨by show (0:Int)≤0;omega,by show (0:Int) < _;omega⟩⟩
 ·unfold chsB allB
  simp only [Bool.and_eq_true,decide_eq_true_eq]
  refine ⟨by simp [newS],fun i t ht=>?_⟩
  have hi:i < pd.caps.length:=by have:=(List.getElem?_eq_some_iff.1 ht).1;simpa [newS] using this
  have et:t=⟨pd.caps.getD i 0,[],false⟩:=by
   simp [newS,List.getElem?_map,List.getElem?_eq_getElem hi] at ht
   rw [← ht,List.getD_eq_getElem?_getD,List.getElem?_eq_getElem hi]
   rfl
  subst et
  have:=hc (pd.caps.getD i 0) (by rw [List.getD_eq_getElem?_getD,List.getElem?_eq_getElem hi];exact List.getElem_mem hi)
  unfold chB
  simp only [Bool.and_eq_true,decide_eq_true_eq]
  exact ⟨⟨decide_eq_true ⟨this.1,this.2⟩,by show (0:Int)≤_;omega⟩,by trivial⟩
 ·unfold trB allB
  simp only [Bool.and_eq_true,decide_eq_true_eq]
  exact ⟨by simp [newS],fun i t ht=>by simp [newS] at ht⟩
theorem rch_ok {pd:PD} {D:SD} (h:progB pd=true) (hb:BodsOk pd.bods pd.caps.length) (hc:CapsOk pd.caps) (hr:Rch pd D):srcB pd D=true:=by
 obtain ⟨ys,rfl⟩:=hr
 have h0:srcB pd (newA pd)=true:=by unfold newA;rw [if_pos h];exact srcB_new h hb hc
 generalize newA pd=E at h0
 induction ys generalizing E with
 | nil=>exact h0
 | cons y ys ih=>
  refine ih _ ?_
  show srcB pd (stepSb pd E y)=true
  unfold stepSb
  rw [if_pos h0]
  exact srcB_step h0 y
end
section
set_option linter.unusedSimpArgs false
set_option linter.unusedVariables false
set_option maxRecDepth 100000
open Go.RowKit
/- the boxes of the answer, and what of the world is as it was -/
structure RB5 (w V:World) (cu:Nat) (s:Option Addr) (n c:Nat):Prop where
 cb:CB V cu s n c
 but:But cu w V
 r0:(V.cell? ⟨w.heap.size,0,none⟩).isSome=true
 r1:(V.cell? ⟨w.heap.size,1,none⟩).isSome=true
 fr:∀ j,V.frozen? ⟨w.heap.size,j,none⟩=false
 t0:(V.cell? ⟨w.heap.size+1,0,none⟩).isSome=true
 t1:(V.cell? ⟨w.heap.size+1,1,none⟩).isSome=true
 t2:(V.cell? ⟨w.heap.size+1,2,none⟩).isSome=true
 ft:∀ j,V.frozen? ⟨w.heap.size+1,j,none⟩=false
 o1:cu < w.heap.size
 o2:w.heap.size+2≤V.heap.size
theorem RB5.step {w V V':World} {cu:Nat} {s:Option Addr} {n c:Nat} (h:RB5 w V cu s n c) (hc:CB V' cu s n c) (hb:But cu V V'):RB5 w V' cu s n c:=by
 have o1:=h.o1
 have o2:=h.o2
 have hs:=hb.size
 have B:∀ k,k < V.heap.size→k≠cu→V'.heap[k]? =V.heap[k]? :=fun k a b=>hb.block k a b
 have C:∀ k j,k < V.heap.size→k≠cu→V'.cell? ⟨k,j,none⟩=V.cell? ⟨k,j,none⟩:=fun k j a b=>World.cell?_of_block (w:=V) (B k a b)
 have F:∀ k j,k < V.heap.size→k≠cu→V'.frozen? ⟨k,j,none⟩=V.frozen? ⟨k,j,none⟩:=fun k j a b=>World.frozen?_of_block (w:=V) (B k a b)
 refine ⟨hc,h.but.trans hb,?_,?_,fun j=>(F _ _ (by omega) (by omega)).trans (h.fr j),?_,?_,?_,fun j=>(F _ _ (by omega) (by omega)).trans (h.ft j),o1,by omega⟩
 ·rw [C _ _ (by omega) (by omega)];exact h.r0
 ·rw [C _ _ (by omega) (by omega)];exact h.r1
 ·rw [C _ _ (by omega) (by omega)];exact h.t0
 ·rw [C _ _ (by omega) (by omega)];exact h.t1
 ·rw [C _ _ (by omega) (by omega)];exact h.t2
/- a store behind the boxes of the answer -/
theorem RB5.set {w V:World} {cu:Nat} {s:Option Addr} {n c g j:Nat} {v:Value} (h:RB5 w V cu s n c) (hg:w.heap.size+2≤g):RB5 w (V.setCell ⟨g,j,none⟩ v) cu s n c:=by
 have o1:=h.o1
 have o2:=h.o2
 obtain ⟨V',hV⟩:∃ V',V.setCell ⟨g,j,none⟩ v=V':=⟨_,rfl⟩
 have B:∀ k,k≠g→V'.heap[k]? =V.heap[k]? :=fun k a=>by rw [← hV];exact Below.heap_setCell _ ⟨g,j,none⟩ _ k a
 have C:∀ k j,k≠g→V'.cell? ⟨k,j,none⟩=V.cell? ⟨k,j,none⟩:=fun k j a=>World.cell?_of_block (w:=V) (B k a)
 have F:∀ k j,k≠g→V'.frozen? ⟨k,j,none⟩=V.frozen? ⟨k,j,none⟩:=fun k j a=>World.frozen?_of_block (w:=V) (B k a)
 have hs:V'.heap.size=V.heap.size:=by rw [← hV];simp
 have hc:CB V' cu s n c:=by rw [← hV];exact h.cb.set (a:=⟨g,j,none⟩) (by show cu < g;omega)
 have hb:But cu w V':=by rw [← hV];exact but_set1 h.but (by omega)
 rw [hV]
 refine ⟨hc,hb,?_,?_,fun j=>(F _ _ (by omega)).trans (h.fr j),?_,?_,?_,fun j=>(F _ _ (by omega)).trans (h.ft j),o1,by omega⟩
 ·rw [C _ _ (by omega)];exact h.r0
 ·rw [C _ _ (by omega)];exact h.r1
 ·rw [C _ _ (by omega)];exact h.t0
 ·rw [C _ _ (by omega)];exact h.t1
 ·rw [C _ _ (by omega)];exact h.t2
def NtOk (l:List ND):Prop:=∀ (i:Nat) (t:ND),l[i]? =some t→0≤t.who∧t.who≤15
/- a program, and a source, as they are read -/
def PgQ (V:World) (lo:Nat) (v0 v1:Value):Prop:=∃ (hi:Nat) (p1 p2:Option Addr) (a1 a2:Nat) (pd:PD),v0=.slice p1 pd.caps.length a1∧v1=.slice p2 pd.bods.length a2∧ProgR V lo hi p1 p2 pd∧Fits pd∧hi≤V.heap.size
def SrQ (V:World) (lo:Nat) (x1 x2 x3:Value):Prop:=∃ (hi:Nat) (s1 s2 s3:Option Addr) (c1 c2 c3:Nat) (D:SD),x1=.slice s1 D.ths.length c1∧x2=.slice s2 D.chs.length c2∧x3=.slice s3 D.tr.length c3∧SrcR V lo hi s1 s2 s3 D∧SFits D∧NtOk D.tr∧hi≤V.heap.size
theorem PgQ.keep {V V':World} {lo:Nat} {v0 v1:Value} (h:PgQ V lo v0 v1) (hk:∀ k,lo≤k→k < V.heap.size→V'.heap[k]? =V.heap[k]?) (hs:V.heap.size≤V'.heap.size):PgQ V' lo v0 v1:=by
 obtain ⟨hi,p1,p2,a1,a2,pd,e0,e1,hp,hf,hB⟩:=h
 exact ⟨hi,p1,p2,a1,a2,pd,e0,e1,hp.keep' (fun k a b=>hk k a (by omega)),hf,by omega⟩
theorem SrQ.keep {V V':World} {lo:Nat} {x1 x2 x3:Value} (h:SrQ V lo x1 x2 x3) (hk:∀ k,lo≤k→k < V.heap.size→V'.heap[k]? =V.heap[k]?) (hs:V.heap.size≤V'.heap.size):SrQ V' lo x1 x2 x3:=by
 obtain ⟨hi,s1,s2,s3,c1,c2,c3,D,e1,e2,e3,hr,hf,hn,hB⟩:=h
 exact ⟨hi,s1,s2,s3,c1,c2,c3,D,e1,e2,e3,hr.keep (fun k a b=>hk k a (by omega)),hf,hn,by omega⟩
/- behind the spoiling -/
structure EndS (w V:World) (cu:Nat) (s:Option Addr) (n c P S:Nat) (v0 v1 x1 x2 x3:Value):Prop where
 rb:RB5 w V cu s n c
 k0:V.cell? ⟨P,0,none⟩=some v0
 k1:V.cell? ⟨P,1,none⟩=some v1
 sb:BoF S V x1 x2 x3
 pg:PgQ V (w.heap.size+2) v0 v1
 sr:SrQ V (w.heap.size+2) x1 x2 x3
 oP:w.heap.size+2≤P
 oS:w.heap.size+2≤S
 oV:P < V.heap.size
theorem EndS.fin {w V : World} {cu : Nat} {s : Option Addr} {n c P S : Nat} {v0 v1 x1 x2 x3 : Value} (h : EndS w V cu s n c P S v0 v1 x1 x2 x3) (u0 u1 u2 u3 u4 : Value) :
  ∃ V5,(((((V.setCell ⟨w.heap.size,0,none⟩ u0).setCell ⟨w.heap.size,1,none⟩ u1).setCell ⟨w.heap.size+1,0,none⟩ u2).setCell ⟨w.heap.size+1,1,none⟩ u3).setCell ⟨w.heap.size+1,2,none⟩ u4).drew=V5∧PgQ V5 (w.heap.size+2) v0 v1∧SrQ V5 (w.heap.size+2) x1 x2 x3∧CB V5 cu s n c∧But cu w V5:=by
 have o1:=h.rb.o1
 obtain ⟨Z,hV⟩:∃ Z,((((V.setCell ⟨w.heap.size,0,none⟩ u0).setCell ⟨w.heap.size,1,none⟩ u1).setCell ⟨w.heap.size+1,0,none⟩ u2).setCell ⟨w.heap.size+1,1,none⟩ u3).setCell ⟨w.heap.size+1,2,none⟩ u4=Z:=⟨_,rfl⟩
 have B0:∀ k,k≠w.heap.size→k≠w.heap.size+1→Z.heap[k]? =V.heap[k]? :=fun k a b=>by
  rw [← hV]
  exact (Below.heap_setCell _ ⟨w.heap.size+1,2,none⟩ _ k b).trans ((Below.heap_setCell _ ⟨w.heap.size+1,1,none⟩ _ k b).trans ((Below.heap_setCell _ ⟨w.heap.size+1,0,none⟩ _ k b).trans ((Below.heap_setCell _ ⟨w.heap.size,1,none⟩ _ k a).trans (Below.heap_setCell _ ⟨w.heap.size,0,none⟩ _ k a))))
 have hs0:Z.heap.size=V.heap.size:=by rw [← hV];simp
 have hcb0:CB Z cu s n c:=by
  rw [← hV]
  exact ((((h.rb.cb.set (a:=⟨w.heap.size,0,none⟩) o1).set (a:=⟨w.heap.size,1,none⟩) o1).set (a:=⟨w.heap.size+1,0,none⟩) (by show cu < w.heap.size+1;omega)).set (a:=⟨w.heap.size+1,1,none⟩) (by show cu < w.heap.size+1;omega)).set (a:=⟨w.heap.size+1,2,none⟩) (by show cu < w.heap.size+1;omega)
 have bl:Below 0 V Z:=by
  rw [← hV]
  exact ((((((Below.refl 0 V).setCell (p:=⟨w.heap.size,0,none⟩) (Nat.zero_le _) _).setCell (p:=⟨w.heap.size,1,none⟩) (Nat.zero_le _) _).setCell (p:=⟨w.heap.size+1,0,none⟩) (Nat.zero_le _) _).setCell (p:=⟨w.heap.size+1,1,none⟩) (Nat.zero_le _) _).setCell (p:=⟨w.heap.size+1,2,none⟩) (Nat.zero_le _) _)
 rw [hV]
 clear hV
 have B:∀ k,k≠w.heap.size→k≠w.heap.size+1→Z.drew.heap[k]? =V.heap[k]? :=B0
 have hs:Z.drew.heap.size=V.heap.size:=hs0
 exact ⟨Z.drew,rfl,h.pg.keep (fun k a _=>B k (by omega) (by omega)) (by omega),h.sr.keep (fun k a _=>B k (by omega) (by omega)) (by omega),hcb0.keep (Below.drew (Below.refl _ _)),⟨bl.os.trans h.rb.but.os,bl.tape.trans h.rb.but.tape,bl.output.trans h.rb.but.output,by rw [hs];exact h.rb.but.size,fun k a b=>(B k (by omega) (by omega)).trans (h.rb.but.block k a b)⟩⟩
/- ahead of the spoiling -/
structure DL (w V:World) (cu:Nat) (s:Option Addr) (n c P S lo hi base:Nat) (p1 p2:Option Addr) (a1 a2:Nat) (pd:PD) (x1 x2 x3:Value) (L1 L2:List (Rec×Value)) (D:SD):Prop where
 rb:RB5 w V cu s n c
 k0:V.cell? ⟨P,0,none⟩=some (.slice p1 pd.caps.length a1)
 k1:V.cell? ⟨P,1,none⟩=some (.slice p2 pd.bods.length a2)
 kf:∀ j,V.frozen? ⟨P,j,none⟩=false
 sb:BoF S V x1 x2 x3
 sx:BxS V S
 pg:ProgR V lo hi p1 p2 pd
 ow:OwnS V base x1 x2 x3 L1 L2 D
 hf:Fits pd
 hF:SFits D
 ok:srcB pd D=true
 o2:w.heap.size+2≤lo
 o3:lo≤hi
 o4:hi≤base
 o5:base≤P
 o6:P < S
 o7:S < V.heap.size
 fa:∀ k,HitS x1 x2 x3 L1 L2 k→k < P
theorem DL.step {w V:World} {cu:Nat} {s:Option Addr} {n c P S lo hi base:Nat} {p1 p2:Option Addr} {a1 a2:Nat} {pd:PD} {x1 x2 x3:Value} {L1 L2:List (Rec×Value)} {D:SD} (h:DL w V cu s n c P S lo hi base p1 p2 a1 a2 pd x1 x2 x3 L1 L2 D) {V':World} (hc:CB V' cu s n c) (hb:But cu V V'):DL w V' cu s n c P S lo hi base p1 p2 a1 a2 pd x1 x2 x3 L1 L2 D:=by
 have o1:=h.rb.o1
 have o2:=h.o2
 have o3:=h.o3
 have o4:=h.o4
 have o5:=h.o5
 have o6:=h.o6
 have o7:=h.o7
 have hs:=hb.size
 have B:∀ k,k < V.heap.size→k≠cu→V'.heap[k]? =V.heap[k]? :=fun k a b=>hb.block k a b
 refine ⟨h.rb.step hc hb,(World.cell?_of_block (w:=V) (a:=⟨P,0,none⟩) (B P (by omega) (by omega))).trans h.k0,(World.cell?_of_block (w:=V) (a:=⟨P,1,none⟩) (B P (by omega) (by omega))).trans h.k1,fun j=>(World.frozen?_of_block (w:=V) (a:=⟨P,j,none⟩) (B P (by omega) (by omega))).trans (h.kf j),h.sb.keep (B S o7 (by omega)) hs,h.sx.same (B S o7 (by omega)),h.pg.keep' (fun k a b=>B k (by omega) (by omega)),h.ow.keep (fun k a b=>B k b (by omega)),h.hf,h.hF,h.ok,o2,o3,o4,o5,o6,by omega,h.fa⟩
theorem NtOk.of {p:PD} {D:SD} (h:srcB p D=true) (hb:p.bods.length≤4):NtOk D.tr:=by
 unfold srcB trB allB at h
 simp only [Bool.and_eq_true,decide_eq_true_eq] at h
 intro i t ht
 have:=of_decide_eq_true (h.2.2.2.2 i t ht)
 omega
theorem DL.srq {w V:World} {cu:Nat} {s:Option Addr} {n c P S lo hi base:Nat} {p1 p2:Option Addr} {a1 a2:Nat} {pd:PD} {x1 x2 x3:Value} {L1 L2:List (Rec×Value)} {D:SD} (h:DL w V cu s n c P S lo hi base p1 p2 a1 a2 pd x1 x2 x3 L1 L2 D) (hb:pd.bods.length≤4):SrQ V (w.heap.size+2) x1 x2 x3:=by
 obtain ⟨s1,c1,s2,c2,s3,c3,e1,e2,e3,hr⟩:=h.ow.src
 exact ⟨V.heap.size,s1,s2,s3,c1,c2,c3,D,e1,e2,e3,hr.mono (by have:=h.o2;have:=h.o3;have:=h.o4;omega) (Nat.le_refl _),h.hF,NtOk.of h.ok hb,Nat.le_refl _⟩
theorem DL.pgq {w V:World} {cu:Nat} {s:Option Addr} {n c P S lo hi base:Nat} {p1 p2:Option Addr} {a1 a2:Nat} {pd:PD} {x1 x2 x3:Value} {L1 L2:List (Rec×Value)} {D:SD} (h:DL w V cu s n c P S lo hi base p1 p2 a1 a2 pd x1 x2 x3 L1 L2 D):PgQ V (w.heap.size+2) (.slice p1 pd.caps.length a1) (.slice p2 pd.bods.length a2):=⟨hi,p1,p2,a1,a2,pd,rfl,rfl,⟨h.pg.1.mono h.o2 (Nat.le_refl _),h.pg.2.mono h.o2 (Nat.le_refl _)⟩,h.hf,by have:=h.o4;have:=h.o5;have:=h.o6;have:=h.o7;omega⟩
end
section
set_option linter.unusedSimpArgs false
set_option linter.unusedVariables false
set_option maxRecDepth 100000
open Go.RowKit Go.Deep
theorem OwnC.form {w:World} {base n:Nat} {v:Value} (h:OwnC w base v n) (hn:0 < n):∃ g cap,v=.slice (some ⟨g,0,none⟩) n cap∧base≤g∧g < w.heap.size:=by
 obtain ⟨xs,h1,-⟩:=h
 exact h1.form hn
theorem OwnSx111.form {w:World} {base n:Nat} {v:Value} (h:OwnSx111 w base v n) (hn:0 < n):∃ g cap,v=.slice (some ⟨g,0,none⟩) n cap∧base≤g∧g < w.heap.size:=by
 obtain ⟨xs,h1,-⟩:=h
 exact h1.form hn
theorem OwnC.at {w:World} {base n g cap k:Nat} (h:OwnC w base (.slice (some ⟨g,0,none⟩) n cap) n) (hk:k < n):∃ z:Int,w.cell? ⟨g,k,none⟩=some (.int .i64 z)∧w.frozen? ⟨g,k,none⟩=false:=by
 obtain ⟨xs,h1,h2⟩:=h
 obtain ⟨u,h3,h4,h5,-⟩:=own_cell (k:=k) h1 (by omega)
 obtain ⟨z,rfl⟩:=h2 u h4
 exact ⟨z,h3,h5⟩
theorem OwnSx111.at {w:World} {base n g cap k:Nat} (h:OwnSx111 w base (.slice (some ⟨g,0,none⟩) n cap) n) (hk:k < n):∃ (g' m cap':Nat),w.cell? ⟨g,k,none⟩=some (.slice (some ⟨g',0,none⟩) m cap')∧1≤m∧m≤12∧OwnI w base (.slice (some ⟨g',0,none⟩) m cap') m∧base≤g'∧g' < w.heap.size:=by
 obtain ⟨xs,h1,h2⟩:=h
 obtain ⟨u,h3,h4,h5,-⟩:=own_cell (k:=k) h1 (by omega)
 obtain ⟨m,m1,m2,h6⟩:=h2 u h4
 obtain ⟨g',cap',rfl,h7,h8⟩:=h6.form (by omega)
 exact ⟨g',m,cap',h3,m1,m2,h6,h7,h8⟩
theorem own_type {w:World} {base size n g cap:Nat} {e:TypeId} {xs:List Value} (h:w.ownsRow base e size (.slice (some ⟨g,0,none⟩) n cap) n xs):∃ cur fr,w.heap[g]? =some (.cells cur e fr):=row_of h g rfl
/- anything stored into a block of another kind -/
theorem own_kind {w:World} {base size n:Nat} {e E:TypeId} {v:Value} {xs:List Value} {a:Addr} {x:Value} {cur':Array Value} {fr':Nat×Nat} (h:w.ownsRow base e size v n xs) (hE:w.heap[a.block]? =some (.cells cur' E fr')) (hne:e≠E):(w.setCell a x).ownsRow base e size v n xs:=by
 obtain ⟨h1,h2⟩:=h
 refine ⟨h1,?_⟩
 rcases h2 with h2 | ⟨g,cap,cur,hv,hb,hg,h3⟩
 ·exact .inl h2
 ·refine .inr ⟨g,cap,cur,hv,hb,(Below.heap_setCell w a x g ?_).trans hg,h3⟩
  intro e'
  rw [← e',hg] at hE
  cases hE
  exact hne rfl
theorem OwnC.kind {w:World} {base n:Nat} {E:TypeId} {v x:Value} {a:Addr} {cur':Array Value} {fr':Nat×Nat} (h:OwnC w base v n) (hE:w.heap[a.block]? =some (.cells cur' E fr')) (hne:3≠E):OwnC (w.setCell a x) base v n:=by
 obtain ⟨xs,h1,h2⟩:=h
 exact ⟨xs,own_kind h1 hE hne,h2⟩
theorem OwnSx111.kind {w:World} {base n:Nat} {E:TypeId} {v x:Value} {a:Addr} {cur':Array Value} {fr':Nat×Nat} (h:OwnSx111 w base v n) (hE:w.heap[a.block]? =some (.cells cur' E fr')) (hne:62≠E) (hne':85≠E):OwnSx111 (w.setCell a x) base v n:=by
 obtain ⟨xs,h1,h2⟩:=h
 refine ⟨xs,own_kind h1 hE hne,fun u hu=>?_⟩
 obtain ⟨m,m1,m2,q,q1,q2⟩:=h2 u hu
 exact ⟨m,m1,m2,q,own_kind q1 hE hne',q2⟩
/- the state: the cursor at p, the answer's cells at R, the program's at P -/
structure Ps (w0 w:World) (p:Nat) (s:Option Addr) (n c R P:Nat) (v0 v1:Value):Prop where
 cb:CB w p s n c
 but:But p w0 w
 c0:w.cell? ⟨P,0,none⟩=some v0
 c1:w.cell? ⟨P,1,none⟩=some v1
 fP:∀ j,w.frozen? ⟨P,j,none⟩=false
 r0:(w.cell? ⟨R,0,none⟩).isSome=true
 r1:(w.cell? ⟨R,1,none⟩).isSome=true
 fR:∀ j,w.frozen? ⟨R,j,none⟩=false
 lt:P < w.heap.size
 kind:∃ cur fr,w.heap[P]? =some (.cells cur 27 fr)
 pR:p < R
 RP:R < P
 old:w0.heap.size≤R
theorem Ps.step {w0 w w':World} {p n c R P:Nat} {s:Option Addr} {v0 v1:Value} (h:Ps w0 w p s n c R P v0 v1) (hc:CB w' p s n c) (hb:But p w w'):Ps w0 w' p s n c R P v0 v1:=by
 have h1:=h.lt
 have h2:=h.pR
 have h4:=h.RP
 have h3:=hb.size
 refine ⟨hc,h.but.trans hb,(hb.cell (p:=⟨P,0,none⟩) h1 (by show P≠p;omega)).trans h.c0,(hb.cell (p:=⟨P,1,none⟩) h1 (by show P≠p;omega)).trans h.c1,fun j=>(hb.frozen (p:=⟨P,j,none⟩) h1 (by show P≠p;omega)).trans (h.fP j),
  by rw [hb.cell (p:=⟨R,0,none⟩) (by show R < _;omega) (by show R≠p;omega)];exact h.r0,by rw [hb.cell (p:=⟨R,1,none⟩) (by show R < _;omega) (by show R≠p;omega)];exact h.r1,fun j=>(hb.frozen (p:=⟨R,j,none⟩) (by show R < _;omega) (by show R≠p;omega)).trans (h.fR j),by omega,?_,h.pR,h.RP,h.old⟩
 obtain ⟨cur,fr,hk⟩:=h.kind
 exact ⟨cur,fr,(hb.block P h1 (by omega)).trans hk⟩
theorem Ps.alloc {w0 w:World} {p n c R P:Nat} {s:Option Addr} {v0 v1:Value} (h:Ps w0 w p s n c R P v0 v1) (o:Obj):Ps w0 (w.alloc o) p s n c R P v0 v1:=h.step (h.cb.alloc o) ((But.refl _ _).alloc o)
theorem Ps.drew {w0 w:World} {p n c R P:Nat} {s:Option Addr} {v0 v1:Value} (h:Ps w0 w p s n c R P v0 v1):Ps w0 w.drew p s n c R P v0 v1:=h.step (h.cb.keep (Below.drew (Below.refl _ _))) (But.of_below (Below.drew (Below.refl _ _)))
theorem Ps.grown {w0 w w':World} {p n c R P:Nat} {s:Option Addr} {v0 v1:Value} {row:Option Nat} {E:TypeId} (h:Ps w0 w p s n c R P v0 v1) (hg:w.grownBy w' row) (hr:∀ k,row=some k→R < k) (hrow:RowOf w row E) (hE:E≠27):Ps w0 w' p s n c R P v0 v1:=by
 have h1:=h.lt
 have h2:=h.pR
 have h4:=h.old
 have h5:=h.RP
 have h3:=hg.size
 obtain ⟨cur,fr,hkind⟩:=h.kind
 have hP:w'.heap[P]? =w.heap[P]? :=hg.block P h1 (fun e=>by
  obtain ⟨cur',fr',h6⟩:=hrow P e.symm
  rw [hkind] at h6
  cases h6
  exact hE rfl)
 have hR:w'.heap[R]? =w.heap[R]? :=hg.block R (by omega) (fun e=>by have:=hr R e.symm;omega)
 have clP:∀ j,w'.cell? ⟨P,j,none⟩=w.cell? ⟨P,j,none⟩:=fun j=>World.cell?_of_block (w:=w) hP
 have clR:∀ j,w'.cell? ⟨R,j,none⟩=w.cell? ⟨R,j,none⟩:=fun j=>World.cell?_of_block (w:=w) hR
 have fzP:∀ j,w'.frozen? ⟨P,j,none⟩=w.frozen? ⟨P,j,none⟩:=fun j=>World.frozen?_of_block (w:=w) hP
 have fzR:∀ j,w'.frozen? ⟨R,j,none⟩=w.frozen? ⟨R,j,none⟩:=fun j=>World.frozen?_of_block (w:=w) hR
 exact ⟨h.cb.grown hg (fun k e=>by have:=hr k e;omega),h.but.grown hg (fun k e=>by have:=hr k e;omega),(clP _).trans h.c0,(clP _).trans h.c1,fun j=>(fzP _).trans (h.fP j),by rw [clR];exact h.r0,by rw [clR];exact h.r1,fun j=>(fzR _).trans (h.fR j),by omega,⟨cur,fr,hP.trans hkind⟩,h.pR,h.RP,h.old⟩
theorem new3x113 (w:World) (x y z:Value) (T:TypeId):∀ j u,[x,y,z][j]? =some u→(w.alloc (.cells #[x,y,z] T)).cell? (Addr.add ⟨w.heap.size,0,none⟩ j)=some u:=by
 intro j u h
 match j,h with
 | 0,h=>simpa [Addr.add,go_sem] using h
 | 1,h=>simpa [Addr.add,go_sem] using h
 | 2,h=>simpa [Addr.add,go_sem] using h
/- append of three ones -/
theorem app_ones {ops : Array Oper} {rest : List Oper} {o : Oper} {a : Act} {Q : Exit → Act → World → Prop} (hgd : o.guard = none) (s x : Operand) (ho : o.op = .call { callee := .builtin .append, args := #[s, x], argTypes := #[24, 24] })
  (w:World) (base n:Nat) (v:Value) (hs:a.eval s=v) (hown:OwnC w base v n) (hx:a.eval x=.slice (some ⟨w.heap.size,0,none⟩) 3 3) (hn:n≤1000) (hbase:base≤w.heap.size)
  (h:∀ g cap w',OwnC w' base (.slice (some ⟨g,0,none⟩) (n+3) cap) (n+3)→(w.alloc (.cells #[.int .i64 1,.int .i64 1,.int .i64 1] 3)).grownBy w' v.ownBlock→(∀ k,v.ownBlock=some k→base≤k)→RowOf (w.alloc (.cells #[.int .i64 1,.int .i64 1,.int .i64 1] 3)) v.ownBlock 3→wpList Tryz.prog ops Q rest (a.put o.dst (.slice (some ⟨g,0,none⟩) (n+3) cap)) w'):
  wpList Tryz.prog ops Q (o::rest) a (w.alloc (.cells #[.int .i64 1,.int .i64 1,.int .i64 1] 3)):=by
 obtain ⟨i0,hi,hz0,hz1,hz2⟩:=info3
 obtain ⟨xs,h1,h2⟩:=hown
 have h1':=own_block (w':=w.alloc (.cells #[.int .i64 1,.int .i64 1,.int .i64 1] 3)) h1 (fun k _ hk=>Below.heap_alloc _ _ _ hk)
 refine wpList_append_lies _ hgd s x 24 ho base 3 i0 _ 1 8 Tryz.underlying24 hi hz0 hz1 hz2 rfl (by decide) v n xs hs h1' ⟨w.heap.size,0,none⟩ 3 3 [.int .i64 1,.int .i64 1,.int .i64 1] hx rfl (new3x113 w _ _ _ _) (fun u hu=>by simp at hu;subst hu;rfl) (by decide) (by unfold maxLen;omega) (by omega) (by simp;omega) _ rfl ?_
 intro g cap w' q1 q2 q3 q4
 exact h g cap w' ⟨_,q1,h2.append (allInt_cons _ (allInt_cons _ (allInt_cons _ allInt_nil)))⟩ q2 (own_row h1) (row_of h1')
end
end Go.Proofs.YtknffngbdakblaaGreat
