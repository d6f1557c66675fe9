/- A region that draws its order, whose operations only read and whose callees only make new memory: one walk, in the order of the text. No condition. Rows of numbers that a call has made: how they lie, what keeps them, and append of one number, and of three noughts. Conditions: fewer than 2^40 numbers. Lists of integers as they lie in memory, and what the laws' small functions make of them. Conditions: the lists are of at most a thousand million numbers. Lists of integers as they lie in memory between two blocks, and how the laws copy and count them. Conditions: at most 1048576 integers where they are copied. Rows of integers that a call has made: kept, copied, written over, looked at again; boxes; what a call that writes over a row leaves. Conditions: at most 2^20 + 1 integers. The plain side of chapter 1: when a place is right, which registers it takes and sets: functions of integers alone. No condition. The leaves of chapter 1: what each small function of the program answers, for every argument, in every world; which place is made of an Ins, and which Ins is made of a place. No condition. Small facts on boxed structs, method tables and comparisons of the program; no condition. laws.toIns hands its Ins on, field by field, in new memory. No condition. Lists of places as they lie in memory, and how the laws copy them. Conditions: lists of at most 1048576 places. A row of integers that is not empty lies somewhere. No condition. Whether a number is within, answered with a draw. Append of one integer, of a row of integers, onto a row that a call has made. Conditions: fewer than 2^30 of them. Lists of integers, of places and of bodies as they lie in memory between two blocks, and how the laws copy them into new memory. Conditions: each list of at most 1048576. Rows of steps that a call has made: how they lie, what keeps them, append of one behind another. Conditions: at most a thousand steps. Single steps as the small functions of both sides make them. No condition. -/
import Derived.Test.YtkhjhibigldcgaaChecked
import Derived.WalkKit
import Derived.KernelRfl
import Derived.Below
import Derived.Deep.QuietTactic
import Derived.BigQuiet
import Derived.WalkSpells
import Derived.WalkLawsBesides
import Derived.Laws.OwnMore
import Derived.Deep.AppendLies
import Derived.Laws.MakeOwn
import Derived.Laws.AppendOwnNone
import Derived.BigRegion
import Derived.Deep.RegionLaw
import Derived.Deep.RegionHeld3
import Derived.OwnWalk
namespace Go.Proofs.Ytkhjhibigldcgaa
section
set_option linter.unusedSimpArgs false
set_option linter.unusedVariables false
set_option maxRecDepth 100000
open Go.RowKit
/- a world that has all that W has, and perhaps more -/
structure Ext (W:World) where
 w:World
 b:Below W.heap.size W w
theorem ext_ne (W:World):Nonempty (Ext W):=⟨⟨W,Below.refl _ _⟩⟩
theorem regionExt {P : Program} {id : Nat} {Q : Exit → Act → World → Prop} {a : Act} (W : World) {l : List Oper} (hm : P.follows .mixedOrders = true) (hB : Region.lexB .any l.toArray = true)
  (h:wpQuiet P l.toArray (fun w'=>∃ x:Ext W,w'=x.w) (fun a'=>∀ w',(∃ x:Ext W,w'=x.w)→Q .normal a' w') l a):(Code.region id l.toArray true).wp P Q a W:=
 wp_region_quiet (C:=fun w'=>∃ x:Ext W,w'=x.w) hm hB ⟨⟨{ W with drawn:=W.drawn+1 },⟨rfl,rfl,rfl,Nat.le_refl _,fun _ _=>rfl⟩⟩,rfl⟩ (by simpa using h)
theorem Ext.fit {W:World} {b o:Nat} {v:Value} (h:W.cell? ⟨b,o,none⟩=some v) (hb:b < W.heap.size):∀ x:Ext W,x.w.cell? ⟨b,o,none⟩=some v:=fun x=>(x.b.cell (p:=⟨b,o,none⟩) hb).trans h
theorem Ext.on {W:World} (X:Ext W) {w3:World} (h:Below X.w.heap.size X.w w3):∃ y:Ext W,w3=y.w:=⟨⟨w3,X.b.trans (h.mono X.b.size)⟩,rfl⟩
end
section
set_option linter.unusedSimpArgs false
set_option linter.unusedVariables false
set_option maxRecDepth 100000
open Go.RowKit
def OwnN (w:World) (base:Nat) (v:Value) (ls:List Int):Prop:=w.ownsRow base 3 1 v ls.length (ls.map (Value.int .i64))
theorem infoInt:∃ i,Try.prog.info? 3=some i∧i.zero=some (.int .i64 0)∧i.size=1∧i.bytes=8:=⟨_,rfl,rfl,rfl,rfl⟩
theorem ownN_empty {w:World} {base:Nat} (hb:base≤w.heap.size):OwnN (w.alloc (.cells #[] 3)) base (.slice (some ⟨w.heap.size,0,none⟩) 0 0) []:=
 World.ownsRow_lit w #[] 0 hb (by unfold maxLen;omega) rfl
theorem OwnN.keep {w w':World} {base:Nat} {v:Value} {ls:List Int} (h:OwnN w base v ls) (hb:∀ k,base≤k→k < w.heap.size→w'.heap[k]? =w.heap[k]?):OwnN w' base v ls:=by
 obtain ⟨h1,h2⟩:=h
 refine ⟨h1,?_⟩
 rcases h2 with h2 | ⟨g,cap,cur,a,b,c,d⟩
 ·exact .inl h2
 ·have hlt:g < w.heap.size:=(Array.getElem?_eq_some_iff.1 c).1
  exact .inr ⟨g,cap,cur,a,b,(hb g b hlt).trans c,d⟩
theorem OwnN.below {w w':World} {base:Nat} {v:Value} {ls:List Int} (h:OwnN w base v ls) (hb:Below w.heap.size w w'):OwnN w' base v ls:=h.keep fun k _ hk=>hb.block k hk
theorem OwnN.alloc {w:World} {base:Nat} {v:Value} {ls:List Int} (h:OwnN w base v ls) (o:Obj):OwnN (w.alloc o) base v ls:=h.keep fun k _ hk=>Below.heap_alloc _ _ _ hk
theorem OwnN.cell {w:World} {base g cap:Nat} {ls:List Int} (h:OwnN w base (.slice (some ⟨g,0,none⟩) ls.length cap) ls) {i:Nat} (hi:i < ls.length):w.cell? ⟨g,i,none⟩=some (.int .i64 (ls.getD i 0)):=by
 rw [World.ownsRow.cellAt h i (by omega)]
 simp [List.getD_eq_getElem?_getD,List.getElem?_eq_getElem hi]
theorem OwnN.sl {w:World} {base:Nat} {v:Value} {ls:List Int} (h:OwnN w base v ls):∃ s cap,v=.slice s ls.length cap:=by
 rcases h.2 with ⟨h1,h2⟩ | ⟨g,cap,cur,a,-⟩
 ·exact ⟨none,0,by rw [h1,h2]⟩
 ·exact ⟨_,_,a⟩
theorem newN1 (w:World) (u:Value):∀ j v,[u][j]? =some v→(w.alloc (.cells #[u] 3)).cell? (Addr.add ⟨w.heap.size,0,none⟩ j)=some v:=by
 intro j v h
 match j,h with
 | 0,h=>simpa [Addr.add,go_sem] using h
 | j+1,h=>simp at h
theorem app_int {ops : Array Oper} {rest : List Oper} {o : Oper} {a : Act} {Q : Exit → Act → World → Prop} (hgd : o.guard = none) (s x : Operand) (ho : o.op = .call { callee := .builtin .append, args := #[s, x], argTypes := #[24, 24] })
  (w:World) (z:Int) (base:Nat) (v:Value) (ls:List Int) (hs:a.eval s=v) (hown:OwnN w base v ls) (hx:a.eval x=.slice (some ⟨w.heap.size,0,none⟩) 1 1) (hn:ls.length≤1099511627776) (hbase:base≤w.heap.size)
  (h:∀ g cap w',OwnN w' base (.slice (some ⟨g,0,none⟩) (ls.length+1) cap) (ls++[z])→Below base w w'→w.heap.size≤w'.heap.size→wpList Try.prog ops Q rest (a.put o.dst (.slice (some ⟨g,0,none⟩) (ls.length+1) cap)) w'):
  wpList Try.prog ops Q (o::rest) a (w.alloc (.cells #[.int .i64 z] 3)):=by
 obtain ⟨i0,hi,hz0,hz1,hz2⟩:=infoInt
 have h1':=hown.alloc (.cells #[.int .i64 z] 3)
 refine wpList_append_lies _ hgd s x 24 ho base 3 i0 _ 1 8 Try.underlying24 hi hz0 hz1 hz2 rfl (by decide) v ls.length _ hs h1' ⟨w.heap.size,0,none⟩ 1 1 [.int .i64 z] hx rfl (newN1 w _) (fun u hu=>by simp at hu;subst hu;rfl) (by decide) (by unfold maxLen;omega) (by omega) (by simp;omega) _ rfl ?_
 intro g cap w' q1 q2 q3 q4
 have hb:Below base w w':=Below.grown (((Below.refl _ _).alloc hbase _)) q2 (by simp;omega) (fun j hj=>(World.ownsRow.lt h1' _ hj).1)
 refine h g cap w' ?_ hb hb.size
 show w'.ownsRow base 3 1 _ (ls++[z]).length ((ls++[z]).map (Value.int .i64))
 rw [List.map_append,List.length_append]
 exact q1
end
section
set_option linter.unusedSimpArgs false
set_option linter.unusedVariables false
set_option maxRecDepth 100000
open Go.RowKit
def Ints (w:World) (s:Option Addr) (l:List Int):Prop:=
 l=[]∨∃ g o,s=some ⟨g,o,none⟩∧g < w.heap.size∧∀ i,i < l.length→w.cell? ⟨g,o+i,none⟩=some (.int .i64 (l.getD i 0))
theorem ret_bool' {x y:Bool} (h:x=y):Ending.returned (.bool x)=Ending.returned (.bool y):=by rw [h]
theorem getD_eq_all (l l':List Int) (h:l.length=l'.length) (hj:∀ j,j < l.length→l.getD j 0=l'.getD j 0):l=l':=by
 apply List.ext_getElem h
 intro i h1 h2
 have:=hj i h1
 simpa [List.getD_eq_getElem?_getD,h1,h2] using this
end
section
set_option linter.unusedSimpArgs false
set_option linter.unusedVariables false
set_option maxRecDepth 100000
open Go.RowKit
theorem setC_at {w:World} {g i:Nat} {v:Value} (h:(w.cell? ⟨g,i,none⟩).isSome=true):(w.setCell ⟨g,i,none⟩ v).cell? ⟨g,i,none⟩=some v:=World.cell?_setCell_same' w _ v h
theorem setC_off {w:World} {g i j:Nat} {v:Value} (h:i≠j):(w.setCell ⟨g,i,none⟩ v).cell? ⟨g,j,none⟩=w.cell? ⟨g,j,none⟩:=by
 apply World.cell?_setCell_other
 intro e
 injection e with e1 e2
 exact h e2
def Keep (lo hi:Nat) (w w':World):Prop:=∀ k,lo≤k→k < hi→w'.heap[k]? =w.heap[k]?
theorem Keep.of_below {lo hi B:Nat} {w w':World} (hb:Below B w w') (h:hi≤B):Keep lo hi w w':=fun k _ hk=>hb.block k (by omega)
theorem Keep.of_set {lo hi:Nat} {w:World} {a:Addr} {v:Value} (h:a.block < lo):Keep lo hi w (w.setCell a v):=fun k hk _=>Below.heap_setCell w a v k (by omega)
theorem Keep.trans {lo hi:Nat} {w w1 w2:World} (h:Keep lo hi w w1) (h':Keep lo hi w1 w2):Keep lo hi w w2:=fun k a b=>(h' k a b).trans (h k a b)
theorem Keep.cell {lo hi:Nat} {w w':World} (h:Keep lo hi w w') {p:Addr} (h1:lo≤p.block) (h2:p.block < hi):w'.cell? p=w.cell? p:=World.cell?_of_block (w:=w) (h p.block h1 h2)
def IntsR (w:World) (lo hi:Nat) (s:Option Addr) (l:List Int):Prop:=
 l=[]∨∃ g off,s=some ⟨g,off,none⟩∧lo≤g∧g < hi∧∀ i,i < l.length→w.cell? ⟨g,off+i,none⟩=some (.int .i64 (l.getD i 0))
theorem IntsR.keep {w w':World} {lo hi:Nat} {s:Option Addr} {l:List Int} (h:IntsR w lo hi s l) (hb:Keep lo hi w w'):IntsR w' lo hi s l:=by
 rcases h with h | ⟨g,o,hs,h1,h2,hc⟩
 ·exact .inl h
 ·exact .inr ⟨g,o,hs,h1,h2,fun i hi=>(hb.cell h1 h2).trans (hc i hi)⟩
theorem IntsR.mono {w:World} {lo hi lo' hi':Nat} {s:Option Addr} {l:List Int} (h:IntsR w lo hi s l) (h1:lo'≤lo) (h2:hi≤hi'):IntsR w lo' hi' s l:=by
 rcases h with h | ⟨g,o,hs,a,b,hc⟩
 ·exact .inl h
 ·exact .inr ⟨g,o,hs,by omega,by omega,hc⟩
theorem mkInt (n:Nat) (hn:n≤1048576) (w:World):(Instr.makeSlice 24 (.int .i64 (n:Int)) (.int .i64 (n:Int))).run Try.prog w=.ok (.slice (some ⟨w.heap.size,0,none⟩) n n) (w.alloc (.cells (madeCells #[.int .i64 0] (n * 1)) 3)):=by
 have h:=run_make (P:=Try.prog) w 24 3 _ (.int .i64 0) Try.underlying24 rfl rfl .i64 .i64 n n (by omega) (Int.le_refl _) (by show (8:Int) * _≤_;omega) (by omega)
 have e:(Value.int .i64 0).cells=#[.int .i64 0]:=rfl
 have e':∀ t,Try.prog.info? 3=some t→t.size=1:=by intro t h;cases h;rfl
 rw [e,e' _ rfl] at h
 simpa using h
theorem setC_blk {w:World} {g g' i j:Nat} {v:Value} (h:g≠g'):(w.setCell ⟨g,i,none⟩ v).cell? ⟨g',j,none⟩=w.cell? ⟨g',j,none⟩:=by
 apply World.cell?_setCell_other
 intro e
 injection e with e1 e2
 exact h e1
end
section
set_option linter.unusedSimpArgs false
set_option linter.unusedVariables false
set_option maxRecDepth 100000
open Go.RowKit
theorem ownKeep' {w w':World} {base:Nat} {e:TypeId} {size n:Nat} {v:Value} {xs:List Value} (h:w.ownsRow base e size v n xs) (hb:∀ k,v.ownBlock=some k→w'.heap[k]? =w.heap[k]?):w'.ownsRow base e size v n xs:=by
 obtain ⟨h1,h2⟩:=h
 refine ⟨h1,?_⟩
 rcases h2 with h2 | ⟨g,cap,cur,rfl,b0,c,d⟩
 ·exact .inl h2
 ·exact .inr ⟨g,cap,cur,rfl,b0,(hb g rfl).trans c,d⟩
theorem ownLow' {w:World} {b b':Nat} {e:TypeId} {size n:Nat} {v:Value} {xs:List Value} (h:w.ownsRow b e size v n xs) (hb:b'≤b):w.ownsRow b' e size v n xs:=by
 obtain ⟨h1,h2⟩:=h
 refine ⟨h1,?_⟩
 rcases h2 with h2 | ⟨g,cap,cur,a,b0,c,d⟩
 ·exact .inl h2
 ·exact .inr ⟨g,cap,cur,a,Nat.le_trans hb b0,c,d⟩
theorem ownType' {w:World} {base base':Nat} {e e':TypeId} {size size' n n':Nat} {v v':Value} {xs xs':List Value} (h:w.ownsRow base e size v n xs) (h':w.ownsRow base' e' size' v' n' xs') (hne:e≠e') {k:Nat} (hk:v.ownBlock=some k):v'.ownBlock≠some k:=by
 intro hk'
 rcases h.2 with ⟨rfl,-⟩ | ⟨g,cap,cur,rfl,-,c,-⟩
 ·cases hk
 rcases h'.2 with ⟨rfl,-⟩ | ⟨g',cap',cur',rfl,-,c',-⟩
 ·cases hk'
 ·simp only [Value.ownBlock,Option.some.injEq] at hk hk'
  subst hk
  subst hk'
  rw [c] at c'
  injection c' with c'
  injection c' with c1 c2
  exact hne c2
theorem ownSl {w:World} {base:Nat} {e:TypeId} {size n:Nat} {v:Value} {xs:List Value} (h:w.ownsRow base e size v n xs):∃ s c,v=.slice s n c:=by
 rcases h.2 with ⟨h1,h2⟩ | ⟨g,cap,cur,a,-⟩
 ·exact ⟨none,0,by rw [h1,h2]⟩
 ·exact ⟨_,_,a⟩
theorem ownN_ints {w:World} {base:Nat} {v:Value} {l:List Int} (h:OwnN w base v l):∃ s c,v=.slice s l.length c∧IntsR w base w.heap.size s l:=by
 rcases Nat.eq_zero_or_pos l.length with h0 | hpos
 ·obtain ⟨s,c,e⟩:=ownSl h
  exact ⟨s,c,e,.inl (List.length_eq_zero_iff.1 h0)⟩
 ·obtain ⟨g,cap,rfl,-⟩:=World.ownsRow.form h hpos
  have hlt:=World.ownsRow.lt h g rfl
  refine ⟨_,_,rfl,.inr ⟨g,0,rfl,hlt.1,hlt.2,fun i hi=>?_⟩⟩
  rw [Nat.zero_add,World.ownsRow.cellAt h i (by omega),List.getElem?_map,List.getD_eq_getElem?_getD,List.getElem?_eq_getElem hi]
  rfl
structure Bo2 (G:Nat) (W:World) (a b:Value):Prop where
 c0:W.cell? ⟨G,0,none⟩=some a
 c1:W.cell? ⟨G,1,none⟩=some b
theorem Bo2.new (w:World) (a b:Value) (T:TypeId):∃ W,w.alloc (.cells #[a,b] T)=W∧Bo2 w.heap.size W a b∧Below w.heap.size w W∧W.heap.size=w.heap.size+1:=
 ⟨_,rfl,⟨by simp [go_sem],by simp [go_sem]⟩,(Below.refl _ _).alloc (Nat.le_refl _) _,by simp⟩
theorem Bo2.keep {G:Nat} {W W':World} {a b:Value} (h:Bo2 G W a b) (hk:Keep G (G+1) W W'):Bo2 G W' a b:=⟨(hk.cell (p:=⟨G,0,none⟩) (Nat.le_refl _) (Nat.lt_succ_self _)).trans h.c0,(hk.cell (p:=⟨G,1,none⟩) (Nat.le_refl _) (Nat.lt_succ_self _)).trans h.c1⟩
/- a row of integers, its block between two -/
structure NB (w:World) (lo hi:Nat) (v:Value) (l:List Int):Prop where
 o:OwnN w lo v l
 h:∀ k,v.ownBlock=some k→k < hi
theorem NB.of {w:World} {lo:Nat} {v:Value} {l:List Int} (h:OwnN w lo v l):NB w lo w.heap.size v l:=⟨h,fun _ hk=>(World.ownsRow.lt h _ hk).2⟩
theorem NB.ints {w:World} {lo:Nat} {v:Value} {l:List Int} (h:OwnN w lo v l):∃ s c,v=.slice s l.length c∧IntsR w lo w.heap.size s l∧NB w lo w.heap.size v l:=by
 obtain ⟨s,c,e,hi⟩:=ownN_ints h
 exact ⟨s,c,e,hi,NB.of h⟩
theorem ownN_intsR {w:World} {base g c:Nat} {l:List Int} (h:OwnN w base (.slice (some ⟨g,0,none⟩) l.length c) l):IntsR w base w.heap.size (some ⟨g,0,none⟩) l:=by
 obtain ⟨s,c',e,hi⟩:=ownN_ints h
 injection e with e1 e2 e3
 rw [e1]
 exact hi
theorem below_drewN (w:World) (n:Nat):Below w.heap.size w (w.drewN n):=⟨rfl,rfl,rfl,Nat.le_refl _,fun _ _=>rfl⟩
structure Bo1 (G:Nat) (W:World) (a:Value):Prop where
 c0:W.cell? ⟨G,0,none⟩=some a
theorem Bo1.new (w:World) (a:Value) (T:TypeId):∃ W,w.alloc (.cells #[a] T)=W∧Bo1 w.heap.size W a∧Below w.heap.size w W∧W.heap.size=w.heap.size+1:=
 ⟨_,rfl,⟨by simp [go_sem]⟩,(Below.refl _ _).alloc (Nat.le_refl _) _,by simp⟩
end
section
set_option linter.unusedSimpArgs false
set_option linter.unusedVariables false
set_option maxRecDepth 100000
namespace Plain
def insB (op r a b n pl ch:Int):Bool:=
 decide (0≤r∧r≤3∧0≤a∧a≤3∧0≤b∧b≤3∧0≤ch∧ch≤3∧
  ((op=1∧ -1000000000≤n∧n≤1000000000∧a=0∧b=0)
   ∨((op=2∨op=3∨op=4)∧n=0)
   ∨(op=5∧0≤n∧n < ch∧r=0∧b=0)
   ∨((op=6∨op=8)∧0≤n∧n < ch∧a=0∧r≠b)
   ∨(op=7∧0≤n∧n < ch∧b=0)
   ∨(op=9∧0≤n∧n < ch∧r=0∧a=0∧b=0)
   ∨(op=10∧r=0∧b=0∧n=0)
   ∨(op=11∧0≤n∧n < pl∧r=0∧a=0∧b=0)
   ∨(op=12∧0≤n∧n < pl∧r=0∧b=0)
   ∨(op=13∧r=0∧a=0∧b=0∧n=0)))
def oneB (n c:Int):Bool:=decide (0≤n∧n < c)
def chansB (c:Int):Bool:=decide (0≤c∧c≤3)
def inB (x lo hi:Int):Bool:=decide (lo≤x∧x≤hi)
end Plain
end
section
set_option linter.unusedSimpArgs false
set_option linter.unusedVariables false
set_option maxRecDepth 100000
open Go.RowKit
end
section
set_option linter.unusedSimpArgs false
set_option linter.unusedVariables false
set_option maxRecDepth 100000
open Go.RowKit
end
section
set_option linter.unusedSimpArgs false
set_option linter.unusedVariables false
set_option maxRecDepth 100000
open Go.RowKit
end
section
set_option linter.unusedSimpArgs false
set_option linter.unusedVariables false
set_option maxRecDepth 100000
open Go.RowKit
structure I5 where
 o:Int
 r:Int
 a:Int
 b:Int
 n:Int
def z5:I5:=⟨0,0,0,0,0⟩
def At5 (w:World) (g off:Nat) (x:I5):Prop:=
 w.cell? ⟨g,off,none⟩=some (.int .i64 x.o)∧w.cell? ⟨g,off+1,none⟩=some (.int .i64 x.r)∧w.cell? ⟨g,off+2,none⟩=some (.int .i64 x.a)∧w.cell? ⟨g,off+3,none⟩=some (.int .i64 x.b)∧w.cell? ⟨g,off+4,none⟩=some (.int .i64 x.n)
theorem At5.keep {w w':World} {B g off:Nat} {x:I5} (h:At5 w g off x) (hb:Below B w w') (hg:g < B):At5 w' g off x:=
 ⟨(hb.cell hg).trans h.1,(hb.cell hg).trans h.2.1,(hb.cell hg).trans h.2.2.1,(hb.cell hg).trans h.2.2.2.1,(hb.cell hg).trans h.2.2.2.2⟩
/- a list of places below block B -/
def InsB (w:World) (B:Nat) (s:Option Addr) (l:List I5):Prop:=
 l=[]∨∃ g off,s=some ⟨g,off,none⟩∧g < B∧∀ i,i < l.length→At5 w g (off+i * 5) (l.getD i z5)
theorem InsB.mono {w:World} {B B':Nat} {s:Option Addr} {l:List I5} (h:InsB w B s l) (hB:B≤B'):InsB w B' s l:=by
 rcases h with h | ⟨g,o,hs,hg,hc⟩
 ·exact .inl h
 ·exact .inr ⟨g,o,hs,by omega,hc⟩
end
section
set_option linter.unusedSimpArgs false
set_option linter.unusedVariables false
set_option maxRecDepth 100000
open Go.RowKit
theorem IntsR.pos {w:World} {lo hi:Nat} {s:Option Addr} {l:List Int} (h:IntsR w lo hi s l) (hl:0 < l.length):∃ g off,s=some ⟨g,off,none⟩∧lo≤g∧g < hi∧∀ i,i < l.length→w.cell? ⟨g,off+i,none⟩=some (.int .i64 (l.getD i 0)):=by
 rcases h with rfl | h
 ·simp at hl
 ·exact h
end
section
set_option linter.unusedSimpArgs false
set_option linter.unusedVariables false
set_option maxRecDepth 100000
open Go.RowKit
theorem all_take {α:Type} {p:α→Bool} {l:List α} {k:Nat} {x:α} (h:l[k]? =some x):(l.take (k+1)).all p=((l.take k).all p&&p x):=by
 rw [List.take_add_one,h,Option.toList_some,List.all_append]
 simp
theorem all_no {α:Type} {p:α→Bool} {l:List α} {k:Nat} {x:α} (h:l[k]? =some x) (hx:p x=false):l.all p=false:=by
 rw [List.all_eq_false]
 exact ⟨x,List.mem_of_getElem? h,by simp [hx]⟩
theorem l1InD_any (x a b:Int) (w:World):Calls Try.prog 21 #[.int .i64 x,.int .i64 a,.int .i64 b] w fun e w'=>e=.returned (.bool (decide (a≤x∧x≤b)))∧w'=w:=by
 by_cases h:x≥a
 ·by_cases h2:x≤b
  ·rw [decide_eq_true ⟨h,h2⟩]
   go_enter Try.func21,Try.ntmps21
   go_wp2
   go_ret
   exact ⟨by simp,rfl⟩
  ·rw [decide_eq_false (fun e=>h2 e.2)]
   go_enter Try.func21,Try.ntmps21
   go_wp2
   go_ret
   exact ⟨by simp,rfl⟩
 ·rw [decide_eq_false (fun e=>h e.1)]
  go_enter Try.func21,Try.ntmps21
  go_wp2
  go_ret
  exact ⟨by simp,rfl⟩
theorem l1InD_is (x lo hi:Int) (b:Bool) (w:World) (h:decide (lo≤x∧x≤hi)=b):Calls Try.prog 21 #[.int .i64 x,.int .i64 lo,.int .i64 hi] w fun e w'=>e=.returned (.bool b)∧w'=w:=by
 rw [← h]
 exact l1InD_any x lo hi w
end
section
set_option linter.unusedSimpArgs false
set_option linter.unusedVariables false
set_option maxRecDepth 100000
open Go.RowKit
theorem news_row {w:World} {g o:Nat} {l:List Int} (hc:∀ i,i < l.length→w.cell? ⟨g,o+i,none⟩=some (.int .i64 (l.getD i 0))):∀ j u,(l.map (Value.int .i64))[j]? =some u→w.cell? (Addr.add ⟨g,o,none⟩ j)=some u:=by
 intro j u hu
 rw [List.getElem?_map] at hu
 by_cases hj:j < l.length
 ·have e:(Addr.add ⟨g,o,none⟩ j)=⟨g,o+j,none⟩:=by
   by_cases h:j=0
   ·subst h;rfl
   ·simp [Addr.add,h]
  rw [e,hc j hj]
  rw [List.getElem?_eq_getElem hj] at hu
  simp at hu
  rw [← hu]
  simp [List.getD_eq_getElem?_getD,List.getElem?_eq_getElem hj]
 ·rw [List.getElem?_eq_none (by omega)] at hu
  cases hu
theorem app_row {ops : Array Oper} {rest : List Oper} {o : Oper} {a : Act} {Q : Exit → Act → World → Prop} (hgd : o.guard = none) (s x : Operand) (ho : o.op = .call { callee := .builtin .append, args := #[s, x], argTypes := #[24, 24] })
  (w:World) (base:Nat) (v:Value) (ls:List Int) (hs:a.eval s=v) (hown:OwnN w base v ls) (g0 o0 c:Nat) (l:List Int) (hx:a.eval x=.slice (some ⟨g0,o0,none⟩) l.length c) (hc:∀ i,i < l.length→w.cell? ⟨g0,o0+i,none⟩=some (.int .i64 (l.getD i 0)))
  (hl:0 < l.length) (hn:ls.length+l.length≤1099511627776) (hbase:base≤w.heap.size)
  (h:∀ g cap w',OwnN w' base (.slice (some ⟨g,0,none⟩) (ls.length+l.length) cap) (ls++l)→Below base w w'→g < w'.heap.size→base≤g→wpList Try.prog ops Q rest (a.put o.dst (.slice (some ⟨g,0,none⟩) (ls.length+l.length) cap)) w'):
  wpList Try.prog ops Q (o::rest) a w:=by
 obtain ⟨i0,hi,hz0,hz1,hz2⟩:=infoInt
 refine wpList_append_lies _ hgd s x 24 ho base 3 i0 _ 1 8 Try.underlying24 hi hz0 hz1 hz2 rfl (by decide) v ls.length _ hs hown ⟨g0,o0,none⟩ l.length c (l.map (Value.int .i64)) hx (by simp) (news_row hc) (fun u hu=>by obtain ⟨z,-,rfl⟩:=List.mem_map.1 hu;rfl) hl (by unfold maxLen;omega) (by omega) hbase _ rfl ?_
 intro g cap w' q1 q2 q3 q4
 have hb:Below base w w':=Below.grown (Below.refl _ _) q2 hbase (fun j hj=>(World.ownsRow.lt hown _ hj).1)
 have ho':OwnN w' base (.slice (some ⟨g,0,none⟩) (ls.length+l.length) cap) (ls++l):=by
  show w'.ownsRow base 3 1 _ (ls++l).length ((ls++l).map (Value.int .i64))
  rw [List.map_append,List.length_append]
  exact q1
 refine h g cap w' ho' hb q4 ?_
 rcases q3 with q3 | q3
 ·exact (World.ownsRow.lt hown _ q3).1
 ·omega
theorem step_row {ops : Array Oper} {o : Oper} {a : Act} {K : Act → World → Prop} {Q : Exit → Act → World → Prop} {E : Prop} (hgd : o.guard = none) (s x : Operand) (ho : o.op = .call { callee := .builtin .append, args := #[s, x], argTypes := #[24, 24] })
  (w:World) (base:Nat) (v:Value) (ls:List Int) (hs:a.eval s=v) (hown:OwnN w base v ls) (g0 o0 c:Nat) (l:List Int) (hx:a.eval x=.slice (some ⟨g0,o0,none⟩) l.length c) (hc:∀ i,i < l.length→w.cell? ⟨g0,o0+i,none⟩=some (.int .i64 (l.getD i 0)))
  (hl:0 < l.length) (hn:ls.length+l.length≤1099511627776) (hbase:base≤w.heap.size)
  (h:∀ g cap w',OwnN w' base (.slice (some ⟨g,0,none⟩) (ls.length+l.length) cap) (ls++l)→Below base w w'→g < w'.heap.size→base≤g→K (a.put o.dst (.slice (some ⟨g,0,none⟩) (ls.length+l.length) cap)) w'):
  if Region.wanted o (yielded ops a.tmps)=true then Oper.wp Try.prog o a w K Q else E:=by
 obtain ⟨i0,hi,hz0,hz1,hz2⟩:=infoInt
 refine step_append_lies _ hgd s x 24 ho base 3 i0 _ 1 8 Try.underlying24 hi hz0 hz1 hz2 rfl (by decide) v ls.length _ hs hown ⟨g0,o0,none⟩ l.length c (l.map (Value.int .i64)) hx (by simp) (news_row hc) (fun u hu=>by obtain ⟨z,-,rfl⟩:=List.mem_map.1 hu;rfl) hl (by unfold maxLen;omega) (by omega) hbase _ rfl ?_
 intro g cap w' q1 q2 q3 q4
 have hb:Below base w w':=Below.grown (Below.refl _ _) q2 hbase (fun j hj=>(World.ownsRow.lt hown _ hj).1)
 have ho':OwnN w' base (.slice (some ⟨g,0,none⟩) (ls.length+l.length) cap) (ls++l):=by
  show w'.ownsRow base 3 1 _ (ls++l).length ((ls++l).map (Value.int .i64))
  rw [List.map_append,List.length_append]
  exact q1
 refine h g cap w' ho' hb q4 ?_
 rcases q3 with q3 | q3
 ·exact (World.ownsRow.lt hown _ q3).1
 ·omega
theorem run_append_zero (w : World) (base : Nat) (v : Value) (ls : List Int) (hown : OwnN w base v ls) (s : Option Addr) (c : Nat) :
  (Builtin.append_ #[24,24] 24 #[v,.slice s 0 c]).run Try.prog w=.ok v w:=by
 obtain ⟨i0,hi,hz0,hz1,hz2⟩:=infoInt
 rcases hown.2 with ⟨rfl,-⟩ | ⟨g,cap,cur,rfl,_,_,hnc,_⟩
 ·cases s<;>simp [Builtin.append_,run_underlying Try.underlying24,sizeOf,typeInfo,hi,Builtin.lenOf,Builtin.firstCells,loadCells,loadCellsFrom,storeCells]
 ·cases s<;>simp [Builtin.append_,run_underlying Try.underlying24,sizeOf,typeInfo,hi,Builtin.lenOf,Builtin.firstCells,hnc,storeCells,loadCells,loadCellsFrom,storeCells]
structure Copied (w w':World) (sv:Option Addr) (cv:Nat) (base n:Nat) (s':Option Addr) (c':Nat):Prop where
 far:∀ k,k < w.heap.size→(Value.slice sv 0 cv).ownBlock≠some k→w'.heap[k]? =w.heap[k]?
 low:Below base w w'
 blk:∀ k,(Value.slice s' n c').ownBlock=some k→w.heap.size≤k∨(Value.slice sv 0 cv).ownBlock=some k
theorem wp_copyI {o : Oper} {a : Act} {w : World} {K : Act → World → Prop} {Q : Exit → Act → World → Prop} (s x : Operand) (hty : o.type = 24) (ho : o.op = .call { callee := .builtin .append, args := #[s, x], argTypes := #[24, 24] })
  (base:Nat) (sv:Option Addr) (cv:Nat) (hs:a.eval s=.slice sv 0 cv) (hown:OwnN w base (.slice sv 0 cv) []) (sx:Option Addr) (c:Nat) (l:List Int) {lo hi:Nat} (hx:a.eval x=.slice sx l.length c) (hr:IntsR w lo hi sx l) (hn:l.length≤1073741824) (hbase:base≤w.heap.size)
  (h:∀ s' c' w',OwnN w' base (.slice s' l.length c') l→Copied w w' sv cv base l.length s' c'→K (a.put o.dst (.slice s' l.length c')) w'):Oper.wp Try.prog o a w K Q:=by
 rcases hr with rfl | ⟨g,off,rfl,h1,h2,hc⟩
 ·have hrun:=run_append_zero w base _ _ hown sx c
  unfold Oper.wp
  simp at hx
  simp [execOp,ho,resolve,invoke,builtin,hs,hx,hty,hrun,Result.andThen]
  exact h sv cv w hown ⟨fun _ _ _=>rfl,Below.refl _ _,fun k hk=>.inr hk⟩
 ·rcases Nat.eq_zero_or_pos l.length with h0 | hl
  ·have e:=List.length_eq_zero_iff.1 h0
   subst e
   have hrun:=run_append_zero w base _ _ hown (some ⟨g,off,none⟩) c
   unfold Oper.wp
   simp at hx
   simp [execOp,ho,resolve,invoke,builtin,hs,hx,hty,hrun,Result.andThen]
   exact h sv cv w hown ⟨fun _ _ _=>rfl,Below.refl _ _,fun k hk=>.inr hk⟩
  ·obtain ⟨i0,hi0,hz0,hz1,hz2⟩:=infoInt
   refine wp_append_lies w s x 24 ho base 3 i0 _ 1 8 Try.underlying24 hi0 hz0 hz1 hz2 rfl (by decide) _ 0 _ hs hown ⟨g,off,none⟩ l.length c (l.map (Value.int .i64)) hx (by simp) (news_row hc) (fun u hu=>by obtain ⟨z,-,rfl⟩:=List.mem_map.1 hu;rfl) hl (by unfold maxLen;omega) (by omega) hbase _ rfl ?_
   intro g' cap w' q1 q2 q3 q4
   have hb:Below base w w':=Below.grown (Below.refl _ _) q2 hbase (fun j hj=>(World.ownsRow.lt hown _ hj).1)
   rw [Nat.zero_add]
   rw [Nat.zero_add] at q1
   refine h _ _ w' (by show w'.ownsRow base 3 1 _ l.length (l.map (Value.int .i64));exact q1) ⟨fun k hk hne=>q2.block k hk (fun e=>hne e.symm),hb,fun k hk=>?_⟩
   injection hk with hk
   rcases q3 with q3 | q3
   ·exact .inr (by rw [q3];exact congrArg some hk)
   ·exact .inl (by have:g'=k:=hk;omega)
theorem app_copyI {ops : Array Oper} {rest : List Oper} {o : Oper} {a : Act} {Q : Exit → Act → World → Prop} (hgd : o.guard = none) (s x : Operand) (hty : o.type = 24) (ho : o.op = .call { callee := .builtin .append, args := #[s, x], argTypes := #[24, 24] }) (w : World)
  (base:Nat) (sv:Option Addr) (cv:Nat) (hs:a.eval s=.slice sv 0 cv) (hown:OwnN w base (.slice sv 0 cv) []) (sx:Option Addr) (c:Nat) (l:List Int) {lo hi:Nat} (hx:a.eval x=.slice sx l.length c) (hr:IntsR w lo hi sx l) (hn:l.length≤1073741824) (hbase:base≤w.heap.size)
  (h:∀ s' c' w',OwnN w' base (.slice s' l.length c') l→Copied w w' sv cv base l.length s' c'→wpList Try.prog ops Q rest (a.put o.dst (.slice s' l.length c')) w'):wpList Try.prog ops Q (o::rest) a w:=
 wpList_plain hgd fun _ hK=>wp_copyI s x hty ho base sv cv hs hown sx c l hx hr hn hbase fun s' c' w' h1 h2=>hK _ _ (h s' c' w' h1 h2)
theorem step_copyI {ops : Array Oper} {o : Oper} {a : Act} {K : Act → World → Prop} {Q : Exit → Act → World → Prop} {E : Prop} (hgd : o.guard = none) (s x : Operand) (hty : o.type = 24) (ho : o.op = .call { callee := .builtin .append, args := #[s, x], argTypes := #[24, 24] }) (w : World)
  (base:Nat) (sv:Option Addr) (cv:Nat) (hs:a.eval s=.slice sv 0 cv) (hown:OwnN w base (.slice sv 0 cv) []) (sx:Option Addr) (c:Nat) (l:List Int) {lo hi:Nat} (hx:a.eval x=.slice sx l.length c) (hr:IntsR w lo hi sx l) (hn:l.length≤1073741824) (hbase:base≤w.heap.size)
  (h:∀ s' c' w',OwnN w' base (.slice s' l.length c') l→Copied w w' sv cv base l.length s' c'→K (a.put o.dst (.slice s' l.length c')) w'):if Region.wanted o (yielded ops a.tmps)=true then Oper.wp Try.prog o a w K Q else E:=by
 have hw:Region.wanted o (yielded ops a.tmps)=true:=by simp [Region.wanted,hgd]
 rw [if_pos hw]
 exact wp_copyI s x hty ho base sv cv hs hown sx c l hx hr hn hbase h
end
section
set_option linter.unusedSimpArgs false
set_option linter.unusedVariables false
set_option maxRecDepth 100000
open Go.RowKit
def InsR (w:World) (lo hi:Nat) (s:Option Addr) (l:List I5):Prop:=
 l=[]∨∃ g off,s=some ⟨g,off,none⟩∧lo≤g∧g < hi∧∀ i,i < l.length→At5 w g (off+i * 5) (l.getD i z5)
def BodR (w:World) (lo hi g off:Nat) (l:List I5):Prop:=∃ s c,w.cell? ⟨g,off,none⟩=some (.slice s l.length c)∧InsR w lo hi s l
def BodsR (w:World) (lo hi:Nat) (s:Option Addr) (l:List (List I5)):Prop:=
 l=[]∨∃ g off,s=some ⟨g,off,none⟩∧lo≤g∧g < hi∧∀ i,i < l.length→BodR w lo hi g (off+i) (l.getD i [])
theorem At5.of_keep {w w':World} {lo hi g off:Nat} {x:I5} (h:At5 w g off x) (hb:Keep lo hi w w') (h1:lo≤g) (h2:g < hi):At5 w' g off x:=
 ⟨(hb.cell h1 h2).trans h.1,(hb.cell h1 h2).trans h.2.1,(hb.cell h1 h2).trans h.2.2.1,(hb.cell h1 h2).trans h.2.2.2.1,(hb.cell h1 h2).trans h.2.2.2.2⟩
theorem InsR.keep {w w':World} {lo hi:Nat} {s:Option Addr} {l:List I5} (h:InsR w lo hi s l) (hb:Keep lo hi w w'):InsR w' lo hi s l:=by
 rcases h with h | ⟨g,o,hs,h1,h2,hc⟩
 ·exact .inl h
 ·exact .inr ⟨g,o,hs,h1,h2,fun i hi=>(hc i hi).of_keep hb h1 h2⟩
theorem BodR.keep {w w':World} {lo hi g off:Nat} {l:List I5} (h:BodR w lo hi g off l) (hb:Keep lo hi w w') (hc:w'.cell? ⟨g,off,none⟩=w.cell? ⟨g,off,none⟩):BodR w' lo hi g off l:=by
 obtain ⟨s,c,h1,h2⟩:=h
 exact ⟨s,c,hc.trans h1,h2.keep hb⟩
theorem BodsR.keep {w w':World} {lo hi:Nat} {s:Option Addr} {l:List (List I5)} (h:BodsR w lo hi s l) (hb:Keep lo hi w w'):BodsR w' lo hi s l:=by
 rcases h with h | ⟨g,o,hs,h1,h2,hc⟩
 ·exact .inl h
 ·exact .inr ⟨g,o,hs,h1,h2,fun i hi=>(hc i hi).keep hb (hb.cell h1 h2)⟩
theorem InsR.mono {w:World} {lo hi lo' hi':Nat} {s:Option Addr} {l:List I5} (h:InsR w lo hi s l) (h1:lo'≤lo) (h2:hi≤hi'):InsR w lo' hi' s l:=by
 rcases h with h | ⟨g,o,hs,a,b,hc⟩
 ·exact .inl h
 ·exact .inr ⟨g,o,hs,by omega,by omega,hc⟩
theorem InsR.insB {w:World} {lo hi:Nat} {s:Option Addr} {l:List I5} (h:InsR w lo hi s l):InsB w hi s l:=by
 rcases h with h | ⟨g,o,hs,a,b,hc⟩
 ·exact .inl h
 ·exact .inr ⟨g,o,hs,b,hc⟩
end
section
set_option linter.unusedSimpArgs false
set_option linter.unusedVariables false
set_option maxRecDepth 100000
open Go.RowKit
def fl5:List I5→List Int
 | []=>[]
 | x::r=>[x.o,x.r,x.a,x.b,x.n]++fl5 r
theorem fl5_len:∀ l:List I5,(fl5 l).length=l.length * 5
 | []=>rfl
 | x::r=>by simp [fl5,fl5_len r];omega
theorem fl5_at:∀ (l:List I5) (i:Nat) (x:I5),l[i]? =some x→(fl5 l)[i * 5]? =some x.o∧(fl5 l)[i * 5+1]? =some x.r∧(fl5 l)[i * 5+2]? =some x.a∧(fl5 l)[i * 5+3]? =some x.b∧(fl5 l)[i * 5+4]? =some x.n
 | [],i,x,h=>by simp at h
 | y::r,0,x,h=>by
  simp at h
  subst h
  exact ⟨rfl,rfl,rfl,rfl,rfl⟩
 | y::r,i+1,x,h=>by
  have h':r[i]? =some x:=by simpa using h
  have e:=fl5_at r i x h'
  have e0:(i+1) * 5=i * 5+5:=by omega
  rw [e0]
  exact e
def OwnT5 (w:World) (base:Nat) (v:Value) (l:List I5):Prop:=w.ownsRow base 98 5 v l.length ((fl5 l).map (Value.int .i64))
theorem fl5_app:∀ (a b:List I5),fl5 (a++b)=fl5 a++fl5 b
 | [],b=>rfl
 | x::r,b=>by simp [fl5,fl5_app r b]
theorem steps_cell {w:World} {g off:Nat} {l:List I5} (hc:∀ i,i < l.length→At5 w g (off+i * 5) (l.getD i z5)) (i:Nat) (hi:i < l.length * 5):w.cell? ⟨g,off+i,none⟩=some (.int .i64 ((fl5 l).getD i 0)):=by
 have hk:i / 5 < l.length:=by omega
 have hx:l[i / 5]? =some (l.getD (i / 5) z5):=by rw [List.getD_eq_getElem?_getD,List.getElem?_eq_getElem hk];rfl
 obtain ⟨c0,c1,c2,c3,c4⟩:=hc (i / 5) hk
 obtain ⟨e0,e1,e2,e3,e4⟩:=fl5_at l (i / 5) _ hx
 rw [List.getD_eq_getElem?_getD]
 rcases (show i % 5=0∨i % 5=1∨i % 5=2∨i % 5=3∨i % 5=4 by omega) with h | h | h | h | h
 ·have e:i=i / 5 * 5:=by omega
  rw [e];rw [e0];exact c0
 ·have e:i=i / 5 * 5+1:=by omega
  rw [e,← Nat.add_assoc];rw [e1];exact c1
 ·have e:i=i / 5 * 5+2:=by omega
  rw [e,← Nat.add_assoc];rw [e2];exact c2
 ·have e:i=i / 5 * 5+3:=by omega
  rw [e,← Nat.add_assoc];rw [e3];exact c3
 ·have e:i=i / 5 * 5+4:=by omega
  rw [e,← Nat.add_assoc];rw [e4];exact c4
theorem infoSt:∃ i,Try.prog.info? 98=some i∧i.zero=some (.agg #[.int .i64 0,.int .i64 0,.int .i64 0,.int .i64 0,.int .i64 0])∧i.size=5∧i.bytes=40:=⟨_,rfl,rfl,rfl,rfl⟩
theorem own5_new {w:World} {base:Nat} (L:List I5) (C:Array Value) (hC:C.toList=(fl5 L).map (Value.int .i64)) (hb:base≤w.heap.size) (hn:L.length≤1000):OwnT5 (w.alloc (.cells C 98)) base (.slice (some ⟨w.heap.size,0,none⟩) L.length L.length) L:=by
 have hs:C.size=L.length * 5:=by rw [← Array.length_toList,hC,List.length_map,fl5_len]
 have h:=World.ownsRow_lit (base:=base) (e:=98) (size:=5) w C L.length hb (by unfold maxLen;omega) hs
 rw [hC] at h
 exact h
theorem OwnT5.keep {w w':World} {base:Nat} {v:Value} {L:List I5} (h:OwnT5 w base v L) (hb:Below w.heap.size w w'):OwnT5 w' base v L:=ownKeep' h (fun k hk=>hb.block k (World.ownsRow.lt h _ hk).2)
theorem OwnT5.low {w:World} {b b':Nat} {v:Value} {L:List I5} (h:OwnT5 w b v L) (hb:b'≤b):OwnT5 w b' v L:=ownLow' h hb
theorem OwnT5.lt {w:World} {base g n c:Nat} {L:List I5} (h:OwnT5 w base (.slice (some ⟨g,0,none⟩) n c) L):base≤g∧g < w.heap.size:=World.ownsRow.lt h g rfl
theorem OwnT5.len {w:World} {base g n c:Nat} {L:List I5} (h:OwnT5 w base (.slice (some ⟨g,0,none⟩) n c) L):n=L.length:=by
 rcases h.2 with ⟨h1,h2⟩ | ⟨g',cap,cur,e,-⟩
 ·cases h1
 ·injection e
theorem OwnT5.cellAt {w:World} {base g n c:Nat} {L:List I5} (h:OwnT5 w base (.slice (some ⟨g,0,none⟩) n c) L) {j:Nat} {z:Int} (hz:(fl5 L)[j]? =some z):w.cell? ⟨g,j,none⟩=some (.int .i64 z):=by
 have hj:=(List.getElem?_eq_some_iff.1 hz).1
 rw [fl5_len] at hj
 have e:=h.len
 subst e
 rw [World.ownsRow.cellAt h j (by omega),List.getElem?_map,hz]
 rfl
theorem OwnT5.insR {w:World} {base g n c:Nat} {L:List I5} (h:OwnT5 w base (.slice (some ⟨g,0,none⟩) n c) L):InsR w base w.heap.size (some ⟨g,0,none⟩) L:=by
 refine .inr ⟨g,0,rfl,h.lt.1,h.lt.2,fun i hi=>?_⟩
 have hx:L[i]? =some (L.getD i z5):=by rw [List.getD_eq_getElem?_getD,List.getElem?_eq_getElem hi];rfl
 obtain ⟨e0,e1,e2,e3,e4⟩:=fl5_at L i _ hx
 rw [Nat.zero_add]
 exact ⟨h.cellAt e0,h.cellAt e1,h.cellAt e2,h.cellAt e3,h.cellAt e4⟩
theorem wp5 {o : Oper} {a : Act} {K : Act → World → Prop} {Q : Exit → Act → World → Prop} (s x : Operand) (ho : o.op = .call { callee := .builtin .append, args := #[s, x], argTypes := #[99, 99] })
  (w:World) (base:Nat) (v:Value) (L1:List I5) (hs:a.eval s=v) (hown:OwnT5 w base v L1) (base2 g2 n2 c2:Nat) (L2:List I5) (hx:a.eval x=.slice (some ⟨g2,0,none⟩) n2 c2) (h2:OwnT5 w base2 (.slice (some ⟨g2,0,none⟩) n2 c2) L2) (hl2:L2.length=n2)
  (hl:0 < n2) (hn:L1.length+n2≤1000) (N:Nat) (hN:L1.length+n2=N) (hbase:base≤w.heap.size)
  (h:∀ g c w',OwnT5 w' base (.slice (some ⟨g,0,none⟩) N c) (L1++L2)→Below base w w'→K (a.put o.dst (.slice (some ⟨g,0,none⟩) N c)) w'):Oper.wp Try.prog o a w K Q:=by
 obtain ⟨i0,hi0,hz0,hz1,hz2⟩:=infoSt
 subst hN hl2
 refine wp_append_lies w s x 99 ho base 98 i0 _ 5 40 Try.underlying99 hi0 hz0 hz1 hz2 rfl (by decide) v L1.length _ hs hown ⟨g2,0,none⟩ L2.length c2 ((fl5 L2).map (Value.int .i64)) hx (by rw [List.length_map,fl5_len]) (fun j u hj=>?_) (fun u hu=>by obtain ⟨z,-,rfl⟩:=List.mem_map.1 hu;rfl) hl (by unfold maxLen;omega) (by omega) hbase _ rfl ?_
 ·rw [List.getElem?_map] at hj
  obtain ⟨z,hz,rfl⟩:=Option.map_eq_some_iff.1 hj
  have ea:Addr.add ⟨g2,0,none⟩ j=⟨g2,j,none⟩:=by
   by_cases h:j=0
   ·subst h;rfl
   ·simp [Addr.add,h]
  rw [ea]
  exact h2.cellAt hz
 intro g cap w' q1 q2 q3 q4
 refine h g cap w' ?_ (Below.grown (Below.refl _ _) q2 hbase (fun j hj=>(World.ownsRow.lt hown _ hj).1))
 show w'.ownsRow base 98 5 _ (L1++L2).length ((fl5 (L1++L2)).map (Value.int .i64))
 rw [fl5_app,List.map_append,List.length_append]
 exact q1
theorem app5 {ops : Array Oper} {rest : List Oper} {o : Oper} {a : Act} {Q : Exit → Act → World → Prop} (hgd : o.guard = none) (s x : Operand) (ho : o.op = .call { callee := .builtin .append, args := #[s, x], argTypes := #[99, 99] })
  (w:World) (base:Nat) (v:Value) (L1:List I5) (hs:a.eval s=v) (hown:OwnT5 w base v L1) (base2 g2 n2 c2:Nat) (L2:List I5) (hx:a.eval x=.slice (some ⟨g2,0,none⟩) n2 c2) (h2:OwnT5 w base2 (.slice (some ⟨g2,0,none⟩) n2 c2) L2) (hl2:L2.length=n2)
  (hl:0 < n2) (hn:L1.length+n2≤1000) (N:Nat) (hN:L1.length+n2=N) (hbase:base≤w.heap.size)
  (h:∀ g c w',OwnT5 w' base (.slice (some ⟨g,0,none⟩) N c) (L1++L2)→Below base w w'→wpList Try.prog ops Q rest (a.put o.dst (.slice (some ⟨g,0,none⟩) N c)) w'):wpList Try.prog ops Q (o::rest) a w:=
 wpList_plain hgd fun _ hK=>wp5 s x ho w base v L1 hs hown base2 g2 n2 c2 L2 hx h2 hl2 hl hn N hN hbase fun g c w' h1 h2=>hK _ _ (h g c w' h1 h2)
theorem step5 {ops : Array Oper} {o : Oper} {a : Act} {K : Act → World → Prop} {Q : Exit → Act → World → Prop} {E : Prop} (hgd : o.guard = none) (s x : Operand) (ho : o.op = .call { callee := .builtin .append, args := #[s, x], argTypes := #[99, 99] })
  (w:World) (base:Nat) (v:Value) (L1:List I5) (hs:a.eval s=v) (hown:OwnT5 w base v L1) (base2 g2 n2 c2:Nat) (L2:List I5) (hx:a.eval x=.slice (some ⟨g2,0,none⟩) n2 c2) (h2:OwnT5 w base2 (.slice (some ⟨g2,0,none⟩) n2 c2) L2) (hl2:L2.length=n2)
  (hl:0 < n2) (hn:L1.length+n2≤1000) (N:Nat) (hN:L1.length+n2=N) (hbase:base≤w.heap.size)
  (h:∀ g c w',OwnT5 w' base (.slice (some ⟨g,0,none⟩) N c) (L1++L2)→Below base w w'→K (a.put o.dst (.slice (some ⟨g,0,none⟩) N c)) w'):if Region.wanted o (yielded ops a.tmps)=true then Oper.wp Try.prog o a w K Q else E:=by
 have hw:Region.wanted o (yielded ops a.tmps)=true:=by simp [Region.wanted,hgd]
 rw [if_pos hw]
 exact wp5 s x ho w base v L1 hs hown base2 g2 n2 c2 L2 hx h2 hl2 hl hn N hN hbase h
def ad (f k:Int):Int:=wrap64 (f+k)
end
section
set_option linter.unusedSimpArgs false
set_option linter.unusedVariables false
set_option maxRecDepth 100000
open Go.RowKit
theorem sLoad (r c:Int) (w:World):Calls Try.prog 87 #[.int .i64 r,.int .i64 c] w fun e w'=>e=.returned (.agg #[.int .i64 5,.int .i64 r,.int .i64 (-1),.int .i64 0,.int .i64 c])∧Below w.heap.size w w':=by
 go_enter Try.func87,Try.ntmps87
 go_wp2
 exact bodyPost_ret (v:=.agg #[.int .i64 5,.int .i64 r,.int .i64 (-1),.int .i64 0,.int .i64 c]) (by simp [results,Try.results87,go_sem]) rfl ⟨rfl,(Below.refl _ _).alloc (Nat.le_refl _) _⟩
theorem sStore (c b:Int) (w:World):Calls Try.prog 88 #[.int .i64 c,.int .i64 b] w fun e w'=>e=.returned (.agg #[.int .i64 6,.int .i64 0,.int .i64 (-1),.int .i64 b,.int .i64 c])∧Below w.heap.size w w':=by
 go_enter Try.func88,Try.ntmps88
 go_wp2
 exact bodyPost_ret (v:=.agg #[.int .i64 6,.int .i64 0,.int .i64 (-1),.int .i64 b,.int .i64 c]) (by simp [results,Try.results88,go_sem]) rfl ⟨rfl,(Below.refl _ _).alloc (Nat.le_refl _) _⟩
theorem sSet (r n:Int) (w:World):Calls Try.prog 77 #[.int .i64 r,.int .i64 n] w fun e w'=>e=.returned (.agg #[.int .i64 1,.int .i64 r,.int .i64 0,.int .i64 0,.int .i64 n])∧Below w.heap.size w w':=by
 go_enter Try.func77,Try.ntmps77
 go_wp2
 exact bodyPost_ret (v:=.agg #[.int .i64 1,.int .i64 r,.int .i64 0,.int .i64 0,.int .i64 n]) (by simp [results,Try.results77,go_sem]) rfl ⟨rfl,(Below.refl _ _).alloc (Nat.le_refl _) _⟩
theorem sZero (a t:Int) (w:World):Calls Try.prog 80 #[.int .i64 a,.int .i64 t] w fun e w'=>e=.returned (.agg #[.int .i64 11,.int .i64 0,.int .i64 a,.int .i64 0,.int .i64 t])∧Below w.heap.size w w':=by
 go_enter Try.func80,Try.ntmps80
 go_wp2
 exact bodyPost_ret (v:=.agg #[.int .i64 11,.int .i64 0,.int .i64 a,.int .i64 0,.int .i64 t]) (by simp [results,Try.results80,go_sem]) rfl ⟨rfl,(Below.refl _ _).alloc (Nat.le_refl _) _⟩
theorem sJump (t:Int) (w:World):Calls Try.prog 79 #[.int .i64 t] w fun e w'=>e=.returned (.agg #[.int .i64 10,.int .i64 0,.int .i64 0,.int .i64 0,.int .i64 t])∧Below w.heap.size w w':=by
 go_enter Try.func79,Try.ntmps79
 go_wp2
 exact bodyPost_ret (v:=.agg #[.int .i64 10,.int .i64 0,.int .i64 0,.int .i64 0,.int .i64 t]) (by simp [results,Try.results79,go_sem]) rfl ⟨rfl,(Below.refl _ _).alloc (Nat.le_refl _) _⟩
theorem sThree (o r a b:Int) (w:World):Calls Try.prog 78 #[.int .i64 o,.int .i64 r,.int .i64 a,.int .i64 b] w fun e w'=>e=.returned (.agg #[.int .i64 o,.int .i64 r,.int .i64 a,.int .i64 b,.int .i64 0])∧Below w.heap.size w w':=by
 go_enter Try.func78,Try.ntmps78
 go_wp2
 exact bodyPost_ret (v:=.agg #[.int .i64 o,.int .i64 r,.int .i64 a,.int .i64 b,.int .i64 0]) (by simp [results,Try.results78,go_sem]) rfl ⟨rfl,(Below.refl _ _).alloc (Nat.le_refl _) _⟩
end
end Go.Proofs.Ytkhjhibigldcgaa
