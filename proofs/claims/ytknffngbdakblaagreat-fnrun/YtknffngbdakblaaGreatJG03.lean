/- Rows of integers that a call has made, written over with running numbers and looked at again. Conditions: at most 2^20 + 1 integers. Rows of threads and of channels that a call has made, written over with running numbers and looked at again. Conditions: the numbers stay below 10^15. Rows of notes that a call has made, written over with running numbers. Conditions: the numbers stay below 10^15. A source that a call has made, written over with running numbers. Conditions: the numbers stay below 10^15. Rows of numbers as they come in, and append of such a row to a row of the call's own. Conditions: at most 2^40 numbers. Chapter 3: ChanOk of the program and of the specification, and a channel as it was in new memory. Conditions: lists of at most 2^30 numbers. -/
import Derived.Test.YtknffngbdakblaaGreatJG00
import Derived.Laws.AppendOwnNone
import Derived.Deep.QuietTactic
import Derived.BigQuiet
import Derived.BigRegion
import Derived.Deep.RegionLaw
import Derived.Deep.RegionHeld3
namespace Go.Proofs.YtknffngbdakblaaGreat
section
set_option linter.unusedSimpArgs false
set_option linter.unusedVariables false
set_option maxRecDepth 100000
open Go.RowKit
end
section
set_option linter.unusedSimpArgs false
set_option linter.unusedVariables false
set_option maxRecDepth 100000
open Go.RowKit
end
section
set_option linter.unusedSimpArgs false
set_option linter.unusedVariables false
set_option maxRecDepth 100000
open Go.RowKit
end
section
set_option linter.unusedSimpArgs false
set_option linter.unusedVariables false
set_option maxRecDepth 100000
open Go.RowKit
theorem OwnQ.keepB {w w':World} {base:Nat} {e:TypeId} {v:Value} {L:List (Rec×Value)} (h:OwnQ w base e v L) (h1:∀ k,v.ownBlock=some k→w'.heap[k]? =w.heap[k]?) (h2:∀ (i:Nat) (x:Rec×Value),L[i]? =some x→∀ k,x.2.ownBlock=some k→w'.heap[k]? =w.heap[k]?):OwnQ w' base e v L:=
 ⟨ownKeep' h.row h1,fun i x hx=>ownKeep' (h.inn i x hx) (h2 i x hx),h.sep⟩
def HitQ (v:Value) (L:List (Rec×Value)) (k:Nat):Prop:=v.ownBlock=some k∨∃ (i:Nat) (x:Rec×Value),L[i]? =some x∧x.2.ownBlock=some k
def HitS (v1 v2 v3:Value) (L1 L2:List (Rec×Value)) (k:Nat):Prop:=HitQ v1 L1 k∨HitQ v2 L2 k∨v3.ownBlock=some k
theorem OwnQ.hit {w:World} {base:Nat} {e:TypeId} {v:Value} {L:List (Rec×Value)} (h:OwnQ w base e v L) {k:Nat} (hk:HitQ v L k):base≤k∧k < w.heap.size:=by
 rcases hk with hk | ⟨i,x,hx,hk⟩
 ·exact World.ownsRow.lt h.row _ hk
 ·exact World.ownsRow.lt (h.inn i x hx) _ hk
theorem OwnS.hit {w:World} {base:Nat} {v1 v2 v3:Value} {L1 L2:List (Rec×Value)} {d:SD} (h:OwnS w base v1 v2 v3 L1 L2 d) {k:Nat} (hk:HitS v1 v2 v3 L1 L2 k):base≤k∧k < w.heap.size:=by
 rcases hk with hk | hk | hk
 ·exact h.t.hit hk
 ·exact h.c.hit hk
 ·exact World.ownsRow.lt h.n _ hk
theorem OwnS.l1 {w:World} {base:Nat} {v1 v2 v3:Value} {L1 L2:List (Rec×Value)} {d:SD} (h:OwnS w base v1 v2 v3 L1 L2 d):L1.length=d.ths.length:=by have:=congrArg List.length h.e1;simpa using this
theorem OwnS.l2 {w:World} {base:Nat} {v1 v2 v3:Value} {L1 L2:List (Rec×Value)} {d:SD} (h:OwnS w base v1 v2 v3 L1 L2 d):L2.length=d.chs.length:=by have:=congrArg List.length h.e2;simpa using this
theorem OwnS.at1 {w:World} {base:Nat} {v1 v2 v3:Value} {L1 L2:List (Rec×Value)} {d:SD} (h:OwnS w base v1 v2 v3 L1 L2 d) {i:Nat} {x:Rec×Value} (hx:L1[i]? =some x):∃ t,d.ths[i]? =some t∧x.1=t.rec3:=by
 have e:=congrArg (fun l=>l[i]?) h.e1
 simp only [List.getElem?_map,hx,Option.map_some] at e
 obtain ⟨t,ht,e'⟩:=Option.map_eq_some_iff.1 e.symm
 exact ⟨t,ht,e'.symm⟩
theorem OwnS.at2 {w:World} {base:Nat} {v1 v2 v3:Value} {L1 L2:List (Rec×Value)} {d:SD} (h:OwnS w base v1 v2 v3 L1 L2 d) {i:Nat} {x:Rec×Value} (hx:L2[i]? =some x):∃ t,d.chs[i]? =some t∧x.1=t.rec3:=by
 have e:=congrArg (fun l=>l[i]?) h.e2
 simp only [List.getElem?_map,hx,Option.map_some] at e
 obtain ⟨t,ht,e'⟩:=Option.map_eq_some_iff.1 e.symm
 exact ⟨t,ht,e'.symm⟩
end
section
set_option linter.unusedSimpArgs false
set_option linter.unusedVariables false
set_option maxRecDepth 100000
open Go.RowKit
def RowI (w:World) (B:Nat) (s:Option Addr) (l:List Int):Prop:=
 l=[]∨∃ g o,s=some ⟨g,o,none⟩∧g < B∧∀ i,i < l.length→w.cell? ⟨g,o+i,none⟩=some (.int .i64 (l.getD i 0))
theorem RowI.keep {w w':World} {B:Nat} {s:Option Addr} {l:List Int} (h:RowI w B s l) (hb:∀ k,k < B→w'.heap[k]? =w.heap[k]?):RowI w' B s l:=by
 rcases h with h | ⟨g,o,hs,hg,hc⟩
 ·exact .inl h
 ·exact .inr ⟨g,o,hs,hg,fun i hi=>(World.cell?_of_block (w:=w) (a:=⟨g,o+i,none⟩) (hb g hg)).trans (hc i hi)⟩
theorem RowI.below {w w':World} {B:Nat} {s:Option Addr} {l:List Int} (h:RowI w B s l) (hb:Below B w w'):RowI w' B s l:=h.keep hb.block
theorem RowI.mono {w:World} {B B':Nat} {s:Option Addr} {l:List Int} (h:RowI w B s l) (hb:B≤B'):RowI w B' s l:=by
 rcases h with h | ⟨g,o,hs,hg,hc⟩
 ·exact .inl h
 ·exact .inr ⟨g,o,hs,by omega,hc⟩
theorem cellOff {w:World} {g i j:Nat} {v:Value} (h:¬ i=j):(w.setCell ⟨g,i,none⟩ v).cell? ⟨g,j,none⟩=w.cell? ⟨g,j,none⟩:=by
 apply World.cell?_setCell_other
 intro e
 injection e with e1 e2
 exact h e2
theorem cellAt {w:World} {g i:Nat} {v u:Value} (h:w.cell? ⟨g,i,none⟩=some u):(w.setCell ⟨g,i,none⟩ v).cell? ⟨g,i,none⟩=some v:=by
 apply World.cell?_setCell_same
 exact h
theorem OwnN.low {w:World} {b b':Nat} {v:Value} {ls:List Int} (h:OwnN w b v ls) (hb:b'≤b):OwnN w b' v ls:=by
 obtain ⟨h1,h2⟩:=h
 refine ⟨h1,?_⟩
 rcases h2 with h2 | ⟨g,cap,cur,a,b0,c,d⟩
 ·exact .inl h2
 ·exact .inr ⟨g,cap,cur,a,Nat.le_trans hb b0,c,d⟩
theorem OwnN.set {w:World} {base:Nat} {v:Value} {ls:List Int} (h:OwnN w base v ls) {a:Addr} (ha:a.block < base) (u:Value):OwnN (w.setCell a u) base v ls:=ownsRow_setCell_below h ha u
theorem OwnN.far {w:World} {base g n cap:Nat} {ls:List Int} (h:OwnN w base (.slice (some ⟨g,0,none⟩) n cap) ls) {a:Addr} (ha:a.block≠g) (u:Value):OwnN (w.setCell a u) base (.slice (some ⟨g,0,none⟩) n cap) ls:=by
 obtain ⟨h1,h2⟩:=h
 refine ⟨h1,?_⟩
 rcases h2 with ⟨h2,-⟩ | ⟨g',cap',cur,hv,hb,hg,h3⟩
 ·cases h2
 ·obtain rfl:g=g':=by injection hv with e;injection e with e;injection e
  exact .inr ⟨g,cap',cur,hv,hb,(Below.heap_setCell w a u g (fun e=>ha e.symm)).trans hg,h3⟩
theorem OwnN.off {w:World} {base:Nat} {v:Value} {ls:List Int} (h:OwnN w base v ls) {a:Addr} (ha:∀ g cap,v=.slice (some ⟨g,0,none⟩) ls.length cap→a.block≠g) (u:Value):OwnN (w.setCell a u) base v ls:=by
 obtain ⟨h1,h2⟩:=h
 refine ⟨h1,?_⟩
 rcases h2 with h2 | ⟨g,cap,cur,hv,hb,hg,h3⟩
 ·exact .inl h2
 ·exact .inr ⟨g,cap,cur,hv,hb,(Below.heap_setCell w a u g (fun e=>ha g cap hv e.symm)).trans hg,h3⟩
theorem OwnN.lt {w:World} {base:Nat} {v:Value} {ls:List Int} (h:OwnN w base v ls) (hn:0 < ls.length):∃ g cap,v=.slice (some ⟨g,0,none⟩) ls.length cap∧base≤g∧g < w.heap.size:=World.ownsRow.form h hn
theorem OwnN.row {w:World} {base:Nat} {v:Value} {ls:List Int} (h:OwnN w base v ls):∃ s c,v=.slice s ls.length c∧RowI w w.heap.size s ls:=by
 by_cases h0:ls.length=0
 ·obtain ⟨s,c,hv⟩:=h.sl
  exact ⟨s,c,hv,.inl (List.length_eq_zero_iff.1 h0)⟩
 ·obtain ⟨g,cap,rfl,-,hlt⟩:=h.lt (by omega)
  exact ⟨_,_,rfl,.inr ⟨g,0,rfl,hlt,fun i hi=>by rw [Nat.zero_add];exact h.cell hi⟩⟩
theorem ownN_nil (w:World) (base:Nat):OwnN w base (.slice none 0 0) []:=World.ownsRow_nil _ _ _ _
theorem run_append_zero (w : World) (base : Nat) (v : Value) (ls : List Int) (hown : OwnN w base v ls) (s : Option Addr) (c : Nat) :
  (Builtin.append_ #[24,24] 24 #[v,.slice s 0 c]).run Tryz.prog w=.ok v w:=by
 obtain ⟨i0,hi,hz0,hz1,hz2⟩:=infoInt
 rcases hown.2 with ⟨rfl,-⟩ | ⟨g,cap,cur,rfl,_,_,hnc,_⟩
 ·cases s<;>simp [Builtin.append_,run_underlying Tryz.underlying24,sizeOf,typeInfo,hi,Builtin.lenOf,Builtin.firstCells,loadCells,loadCellsFrom,storeCells]
 ·cases s<;>simp [Builtin.append_,run_underlying Tryz.underlying24,sizeOf,typeInfo,hi,Builtin.lenOf,Builtin.firstCells,hnc,storeCells,loadCells,loadCellsFrom,storeCells]
theorem app_none {ops : Array Oper} {rest : List Oper} {o : Oper} {a : Act} {Q : Exit → Act → World → Prop} (hgd : o.guard = none) (s x : Operand) (hty : o.type = 24) (ho : o.op = .call { callee := .builtin .append, args := #[s, x], argTypes := #[24, 24] })
  (w:World) (base:Nat) (v:Value) (ls:List Int) (hs:a.eval s=v) (hown:OwnN w base v ls) (sx:Option Addr) (cx:Nat) (hx:a.eval x=.slice sx 0 cx)
  (h:wpList Tryz.prog ops Q rest (a.put o.dst v) w):wpList Tryz.prog ops Q (o::rest) a w:=by
 refine wpList_plain hgd fun K hK=>?_
 have hrun:=run_append_zero w base v ls hown sx cx
 unfold Oper.wp
 simp [execOp,ho,resolve,invoke,builtin,hs,hx,hty,hrun,Result.andThen]
 exact hK _ _ h
theorem step_none {ops : Array Oper} {o : Oper} {a : Act} {K : Act → World → Prop} {Q : Exit → Act → World → Prop} {E : Prop} (hgd : o.guard = none) (s x : Operand) (hty : o.type = 24) (ho : o.op = .call { callee := .builtin .append, args := #[s, x], argTypes := #[24, 24] })
  (w:World) (base:Nat) (v:Value) (ls:List Int) (hs:a.eval s=v) (hown:OwnN w base v ls) (sx:Option Addr) (cx:Nat) (hx:a.eval x=.slice sx 0 cx)
  (h:K (a.put o.dst v) w):if Region.wanted o (yielded ops a.tmps)=true then Oper.wp Tryz.prog o a w K Q else E:=by
 have hw:Region.wanted o (yielded ops a.tmps)=true:=by simp [Region.wanted,hgd]
 rw [if_pos hw]
 have hrun:=run_append_zero w base v ls hown sx cx
 unfold Oper.wp
 simp [execOp,ho,resolve,invoke,builtin,hs,hx,hty,hrun,Result.andThen]
 exact h
theorem news_row {w:World} {g o:Nat} {l:List Int} (hc:∀ i,i < l.length→w.cell? ⟨g,o+i,none⟩=some (.int .i64 (l.getD i 0))):∀ j u,(l.map (Value.int .i64))[j]? =some u→w.cell? (Addr.add ⟨g,o,none⟩ j)=some u:=by
 intro j u hu
 rw [List.getElem?_map] at hu
 by_cases hj:j < l.length
 ·have e:(Addr.add ⟨g,o,none⟩ j)=⟨g,o+j,none⟩:=by
   by_cases h:j=0
   ·subst h;rfl
   ·simp [Addr.add,h]
  rw [e,hc j hj]
  rw [List.getElem?_eq_getElem hj] at hu
  simp at hu
  rw [← hu]
  simp [List.getD_eq_getElem?_getD,List.getElem?_eq_getElem hj]
 ·rw [List.getElem?_eq_none (by omega)] at hu
  cases hu
theorem app_row {ops : Array Oper} {rest : List Oper} {o : Oper} {a : Act} {Q : Exit → Act → World → Prop} (hgd : o.guard = none) (s x : Operand) (ho : o.op = .call { callee := .builtin .append, args := #[s, x], argTypes := #[24, 24] })
  (w:World) (base:Nat) (v:Value) (ls:List Int) (hs:a.eval s=v) (hown:OwnN w base v ls) (g0 o0 c:Nat) (l:List Int) (hx:a.eval x=.slice (some ⟨g0,o0,none⟩) l.length c) (hc:∀ i,i < l.length→w.cell? ⟨g0,o0+i,none⟩=some (.int .i64 (l.getD i 0)))
  (hl:0 < l.length) (hn:ls.length+l.length≤1099511627776) (hbase:base≤w.heap.size)
  (h:∀ g cap w',OwnN w' base (.slice (some ⟨g,0,none⟩) (ls.length+l.length) cap) (ls++l)→Below base w w'→g < w'.heap.size→base≤g→wpList Tryz.prog ops Q rest (a.put o.dst (.slice (some ⟨g,0,none⟩) (ls.length+l.length) cap)) w'):
  wpList Tryz.prog ops Q (o::rest) a w:=by
 obtain ⟨i0,hi,hz0,hz1,hz2⟩:=infoInt
 refine wpList_append_lies _ hgd s x 24 ho base 3 i0 _ 1 8 Tryz.underlying24 hi hz0 hz1 hz2 rfl (by decide) v ls.length _ hs hown ⟨g0,o0,none⟩ l.length c (l.map (Value.int .i64)) hx (by simp) (news_row hc) (fun u hu=>by obtain ⟨z,-,rfl⟩:=List.mem_map.1 hu;rfl) hl (by unfold maxLen;omega) (by omega) hbase _ rfl ?_
 intro g cap w' q1 q2 q3 q4
 have hb:Below base w w':=Below.grown (Below.refl _ _) q2 hbase (fun j hj=>(World.ownsRow.lt hown _ hj).1)
 have ho':OwnN w' base (.slice (some ⟨g,0,none⟩) (ls.length+l.length) cap) (ls++l):=by
  show w'.ownsRow base 3 1 _ (ls++l).length ((ls++l).map (Value.int .i64))
  rw [List.map_append,List.length_append]
  exact q1
 refine h g cap w' ho' hb q4 ?_
 rcases q3 with q3 | q3
 ·exact (World.ownsRow.lt hown _ q3).1
 ·omega
theorem step_row {ops : Array Oper} {o : Oper} {a : Act} {K : Act → World → Prop} {Q : Exit → Act → World → Prop} {E : Prop} (hgd : o.guard = none) (s x : Operand) (ho : o.op = .call { callee := .builtin .append, args := #[s, x], argTypes := #[24, 24] })
  (w:World) (base:Nat) (v:Value) (ls:List Int) (hs:a.eval s=v) (hown:OwnN w base v ls) (g0 o0 c:Nat) (l:List Int) (hx:a.eval x=.slice (some ⟨g0,o0,none⟩) l.length c) (hc:∀ i,i < l.length→w.cell? ⟨g0,o0+i,none⟩=some (.int .i64 (l.getD i 0)))
  (hl:0 < l.length) (hn:ls.length+l.length≤1099511627776) (hbase:base≤w.heap.size)
  (h:∀ g cap w',OwnN w' base (.slice (some ⟨g,0,none⟩) (ls.length+l.length) cap) (ls++l)→Below base w w'→g < w'.heap.size→base≤g→K (a.put o.dst (.slice (some ⟨g,0,none⟩) (ls.length+l.length) cap)) w'):
  if Region.wanted o (yielded ops a.tmps)=true then Oper.wp Tryz.prog o a w K Q else E:=by
 obtain ⟨i0,hi,hz0,hz1,hz2⟩:=infoInt
 refine step_append_lies _ hgd s x 24 ho base 3 i0 _ 1 8 Tryz.underlying24 hi hz0 hz1 hz2 rfl (by decide) v ls.length _ hs hown ⟨g0,o0,none⟩ l.length c (l.map (Value.int .i64)) hx (by simp) (news_row hc) (fun u hu=>by obtain ⟨z,-,rfl⟩:=List.mem_map.1 hu;rfl) hl (by unfold maxLen;omega) (by omega) hbase _ rfl ?_
 intro g cap w' q1 q2 q3 q4
 have hb:Below base w w':=Below.grown (Below.refl _ _) q2 hbase (fun j hj=>(World.ownsRow.lt hown _ hj).1)
 have ho':OwnN w' base (.slice (some ⟨g,0,none⟩) (ls.length+l.length) cap) (ls++l):=by
  show w'.ownsRow base 3 1 _ (ls++l).length ((ls++l).map (Value.int .i64))
  rw [List.map_append,List.length_append]
  exact q1
 refine h g cap w' ho' hb q4 ?_
 rcases q3 with q3 | q3
 ·exact (World.ownsRow.lt hown _ q3).1
 ·omega
theorem own_block_lt {w:World} {base:Nat} {v:Value} {ls:List Int} (h:OwnN w base v ls) {k:Nat} (hk:v.ownBlock=some k):base≤k∧k < w.heap.size:=World.ownsRow.lt h _ hk
theorem app_one {ops : Array Oper} {rest : List Oper} {o : Oper} {a : Act} {Q : Exit → Act → World → Prop} (hgd : o.guard = none) (s x : Operand) (ho : o.op = .call { callee := .builtin .append, args := #[s, x], argTypes := #[24, 24] })
  (w:World) (z:Int) (base:Nat) (v:Value) (ls:List Int) (hs:a.eval s=v) (hown:OwnN w base v ls) (hx:a.eval x=.slice (some ⟨w.heap.size,0,none⟩) 1 1) (hn:ls.length≤1099511627775) (hbase:base≤w.heap.size)
  (h:∀ g cap w',OwnN w' base (.slice (some ⟨g,0,none⟩) (ls.length+1) cap) (ls++[z])→Below base w w'→(∀ k,k < w.heap.size→v.ownBlock≠some k→w'.heap[k]? =w.heap[k]? ∧k≠g)→wpList Tryz.prog ops Q rest (a.put o.dst (.slice (some ⟨g,0,none⟩) (ls.length+1) cap)) w'):
  wpList Tryz.prog ops Q (o::rest) a (w.alloc (.cells #[.int .i64 z] 3)):=by
 obtain ⟨i0,hi,hz0,hz1,hz2⟩:=infoInt
 have h1':=hown.alloc (.cells #[.int .i64 z] 3)
 refine wpList_append_lies _ hgd s x 24 ho base 3 i0 _ 1 8 Tryz.underlying24 hi hz0 hz1 hz2 rfl (by decide) v ls.length _ hs h1' ⟨w.heap.size,0,none⟩ 1 1 [.int .i64 z] hx rfl (newN1 w _) (fun u hu=>by simp at hu;subst hu;rfl) (by decide) (by unfold maxLen;omega) (by omega) (by simp;omega) _ rfl ?_
 intro g cap w' q1 q2 q3 q4
 have hb:Below base w w':=Below.grown (((Below.refl _ _).alloc hbase _)) q2 (by simp;omega) (fun j hj=>(World.ownsRow.lt h1' _ hj).1)
 refine h g cap w' ?_ hb (fun k hk hne=>?_)
 ·show w'.ownsRow base 3 1 _ (ls++[z]).length ((ls++[z]).map (Value.int .i64))
  rw [List.map_append,List.length_append]
  exact q1
 ·refine ⟨(q2.block k (by simp;omega) (fun e=>hne e.symm)).trans (Below.heap_alloc _ _ _ hk),?_⟩
  rintro rfl
  rcases q3 with q3 | q3
  ·exact hne q3
  ·simp at q3;omega
end
section
set_option linter.unusedSimpArgs false
set_option linter.unusedVariables false
set_option maxRecDepth 100000
open Go.RowKit
def okC (cap:Int) (n:Nat):Bool:=decide (1≤cap∧cap≤4∧(n:Int)≤cap)
theorem ret_b {x y:Bool} (h:x=y):Ending.returned (.bool x)=Ending.returned (.bool y):=by rw [h]
theorem chCapOk_any (c:Int) (w:World):Calls Tryz.prog 84 #[.int .i64 c] w fun e w'=>e=.returned (.bool (decide (1≤c∧c≤4)))∧w'=w:=by
 by_cases h1:1≤c
 ·by_cases h2:c≤4
  ·go_enter Tryz.func84,Tryz.ntmps84
   go_wp2
   go_ret
   exact ⟨ret_b (by simp [h1,h2]),rfl⟩
  ·go_enter Tryz.func84,Tryz.ntmps84
   go_wp2
   go_ret
   exact ⟨ret_b (by simp [h2]),rfl⟩
 ·go_enter Tryz.func84,Tryz.ntmps84
  go_wp2
  go_ret
  exact ⟨ret_b (by rw [Bool.eq_iff_iff];simp;omega),rfl⟩
theorem chL1In_any (x a b:Int) (w:World):Calls Tryz.prog 34 #[.int .i64 x,.int .i64 a,.int .i64 b] w fun e w'=>e=.returned (.bool (decide (a≤x∧x≤b)))∧w'=w:=by
 by_cases h1:a≤x
 ·by_cases h2:x≤b
  ·go_enter Tryz.func34,Tryz.ntmps34
   go_wp2
   go_ret
   exact ⟨ret_b (by simp [h1,h2]),rfl⟩
  ·go_enter Tryz.func34,Tryz.ntmps34
   go_wp2
   go_ret
   exact ⟨ret_b (by simp [h2]),rfl⟩
 ·go_enter Tryz.func34,Tryz.ntmps34
  go_wp2
  go_ret
  exact ⟨ret_b (by rw [Bool.eq_iff_iff];simp;omega),rfl⟩
theorem implOk_any (cap:Int) (s:Option Addr) (n c:Nat) (cl:Bool) (w:World) (hn:n≤1073741824):Calls Tryz.prog 64 #[.agg #[.int .i64 cap,.slice s n c,.bool cl]] w fun e w'=>e=.returned (.bool (okC cap n))∧Below w.heap.size w w':=by
 by_cases h1:1≤cap∧cap≤4
 ·have hd:decide (1≤cap∧cap≤4)=true:=by simp [h1]
  by_cases h2:(n:Int)≤cap
  ·have H1:Hid (1≤cap∧cap≤4):=h1
   clear h1
   go_enter Tryz.func64,Tryz.ntmps64
   go_wp2_with (go_at_call 84;refine (chCapOk_any _ _).mono ?_;rintro e w' ⟨rfl,rfl⟩;rw [hd])
   go_ret
   exact ⟨ret_b (by unfold okC;simp [H1.out,h2]),(Below.refl _ _).alloc (Nat.le_refl _) _⟩
  ·have H1:Hid (1≤cap∧cap≤4):=h1
   clear h1
   go_enter Tryz.func64,Tryz.ntmps64
   go_wp2_with (go_at_call 84;refine (chCapOk_any _ _).mono ?_;rintro e w' ⟨rfl,rfl⟩;rw [hd])
   go_ret
   exact ⟨ret_b (by have:=H1.out;unfold okC;rw [Bool.eq_iff_iff];simp;omega),(Below.refl _ _).alloc (Nat.le_refl _) _⟩
 ·have hd:decide (1≤cap∧cap≤4)=false:=by simpa using h1
  have H1:Hid (¬ (1≤cap∧cap≤4)):=h1
  clear h1
  go_enter Tryz.func64,Tryz.ntmps64
  go_wp2_with (go_at_call 84;refine (chCapOk_any _ _).mono ?_;rintro e w' ⟨rfl,rfl⟩;rw [hd])
  go_ret
  exact ⟨ret_b (by unfold okC;symm;rw [decide_eq_false_iff_not];intro h;exact H1.out ⟨h.1,h.2.1⟩),(Below.refl _ _).alloc (Nat.le_refl _) _⟩
theorem specOk_any (cap:Int) (s:Option Addr) (n c:Nat) (cl:Bool) (w:World) (hn:n≤1073741824):Calls Tryz.prog 35 #[.agg #[.int .i64 cap,.slice s n c,.bool cl]] w fun e w'=>e=.returned (.bool (okC cap n))∧Below w.heap.size w w':=by
 by_cases h1:1≤cap∧cap≤4
 ·have hd:decide (1≤cap∧cap≤4)=true:=by simp [h1]
  by_cases h2:(n:Int)≤cap
  ·have H1:Hid (1≤cap∧cap≤4):=h1
   clear h1
   go_enter Tryz.func35,Tryz.ntmps35
   go_wp2_with (go_at_call 34;refine (chL1In_any _ _ _ _).mono ?_;rintro e w' ⟨rfl,rfl⟩;rw [hd])
   go_ret
   exact ⟨ret_b (by unfold okC;simp [H1.out,h2]),(Below.refl _ _).alloc (Nat.le_refl _) _⟩
  ·have H1:Hid (1≤cap∧cap≤4):=h1
   clear h1
   go_enter Tryz.func35,Tryz.ntmps35
   go_wp2_with (go_at_call 34;refine (chL1In_any _ _ _ _).mono ?_;rintro e w' ⟨rfl,rfl⟩;rw [hd])
   go_ret
   exact ⟨ret_b (by have:=H1.out;unfold okC;rw [Bool.eq_iff_iff];simp;omega),(Below.refl _ _).alloc (Nat.le_refl _) _⟩
 ·have hd:decide (1≤cap∧cap≤4)=false:=by simpa using h1
  have H1:Hid (¬ (1≤cap∧cap≤4)):=h1
  clear h1
  go_enter Tryz.func35,Tryz.ntmps35
  go_wp2_with (go_at_call 34;refine (chL1In_any _ _ _ _).mono ?_;rintro e w' ⟨rfl,rfl⟩;rw [hd])
  go_ret
  exact ⟨ret_b (by unfold okC;symm;rw [decide_eq_false_iff_not];intro h;exact H1.out ⟨h.1,h.2.1⟩),(Below.refl _ _).alloc (Nat.le_refl _) _⟩
def CopyPost (cap:Int) (l:List Int) (cl:Bool) (w:World) (e:Ending) (w':World):Prop:=
 ∃ v,e=.returned (.agg #[.int .i64 cap,v,.bool cl])∧OwnN w' w.heap.size v l∧Below w.heap.size w w'∧w.heap.size < w'.heap.size
/- the argument's box and the box of the result, as a call lays them first -/
structure Box (B:Nat) (W:World) (v0 v1 v2 u0 u1 u2:Value):Prop where
 c0:W.cell? ⟨B,0,none⟩=some v0
 c1:W.cell? ⟨B,1,none⟩=some v1
 c2:W.cell? ⟨B,2,none⟩=some v2
 d0:W.cell? ⟨B+1,0,none⟩=some u0
 d1:W.cell? ⟨B+1,1,none⟩=some u1
 d2:W.cell? ⟨B+1,2,none⟩=some u2
 f0:∀ j,W.frozen? ⟨B,j,none⟩=false
 f1:∀ j,W.frozen? ⟨B+1,j,none⟩=false
 z:B+2≤W.heap.size
 z0:B < W.heap.size
 z1:B+1 < W.heap.size
theorem Box.keep {B:Nat} {W w1:World} {v0 v1 v2 u0 u1 u2:Value} (h:Box B W v0 v1 v2 u0 u1 u2) (hb:Below (B+2) W w1):Box B w1 v0 v1 v2 u0 u1 u2:=by
 have hs:=hb.size
 have hz:=h.z
 exact ⟨(hb.cell (by simp)).trans h.c0,(hb.cell (by simp)).trans h.c1,(hb.cell (by simp)).trans h.c2,(hb.cell (by simp)).trans h.d0,(hb.cell (by simp)).trans h.d1,(hb.cell (by simp)).trans h.d2,
  fun j=>(hb.frozen (by simp)).trans (h.f0 j),fun j=>(hb.frozen (by simp)).trans (h.f1 j),by omega,by omega,by omega⟩
theorem below_2 {w:World} {a b:Obj}:Below w.heap.size w ((w.alloc a).alloc b):=((Below.refl _ _).alloc (Nat.le_refl _) _).alloc (by simp) _
theorem box3 {w:World} {v0 v1 v2 u0 u1 u2:Value} {T T':TypeId}:Box w.heap.size ((w.alloc (.cells #[v0,v1,v2] T)).alloc (.cells #[u0,u1,u2] T')) v0 v1 v2 u0 u1 u2:=by
 refine ⟨?_,?_,?_,?_,?_,?_,?_,?_,?_,?_,?_⟩<;>simp [go_sem]<;>omega
theorem boxW (w:World) (v0 v1 v2 u0 u1 u2:Value) (T T':TypeId):∃ W,(w.alloc (.cells #[v0,v1,v2] T)).alloc (.cells #[u0,u1,u2] T')=W∧Box w.heap.size W v0 v1 v2 u0 u1 u2∧Below w.heap.size w W:=⟨_,rfl,box3,below_2⟩
set_option maxHeartbeats 1000000 in
theorem sameChan_any (cap:Int) (s:Option Addr) (l:List Int) (c:Nat) (cl:Bool) (w:World) (hr:RowI w w.heap.size s l) (hn:l.length≤1073741824):Calls Tryz.prog 44 #[.agg #[.int .i64 cap,.slice s l.length c,.bool cl]] w fun e w'=>CopyPost cap l cl w e w':=by
 rcases Nat.eq_zero_or_pos l.length with h0 | hl0
 ·have:l=[]:=List.length_eq_zero_iff.1 h0
  subst this
  clear h0 hr
  go_enter Tryz.func44,Tryz.ntmps44
  go_wp2_with (at_builtin;refine app_none rfl _ _ rfl rfl _ w.heap.size (.slice none 0 0) [] rfl (ownN_nil _ _) s c rfl ?_)
  exact bodyPost_ret (v:=.agg #[.int .i64 cap,.slice none 0 0,.bool cl]) (by simp [results,Tryz.results44,go_sem]) rfl ⟨_,rfl,ownN_nil _ _,below_2,by simp [go_sem]<;>omega⟩
 ·rcases hr with rfl | ⟨g,o,rfl,hg,hc⟩
  ·simp at hl0
  have HC:Hid (∀ i,i < l.length→w.cell? ⟨g,o+i,none⟩=some (.int .i64 (l.getD i 0))):=hc
  clear hc
  go_enter Tryz.func44,Tryz.ntmps44
  go_wp2_with (at_builtin;refine app_row rfl _ _ rfl _ (w.heap.size+2) (.slice none 0 0) [] rfl (ownN_nil _ _) g o c l rfl (fun i hi=>(below_2.cell hg).trans (HC.out i hi)) hl0 (by simp;omega) (by simp) ?_;intro g1 cap1 w1 ho1 hb1 hg1 hg1';have HO:Hid (OwnN w1 (w.heap.size+2) (.slice (some ⟨g1,0,none⟩) l.length cap1) l):=(by simp at ho1;exact ho1);clear ho1;obtain ⟨c0,c1,c2,d0,d1,d2,f0,f1,z,z0,z1⟩:=box3.keep hb1;have K1:=below_2.trans (hb1.mono (by omega));clear hb1)
  refine bodyPost_ret (v:=.agg #[.int .i64 cap,.slice (some ⟨g1,0,none⟩) l.length cap1,.bool cl]) (by simp [results,Tryz.results44,go_sem,c0,c1,c2,d0,d1,d2]) rfl ⟨_,rfl,?_,?_,by simp [go_sem]<;>omega⟩
  ·exact OwnN.low ((((HO.out.set (a:=⟨w.heap.size,1,none⟩) (by simp) _).set (a:=⟨w.heap.size+1,0,none⟩) (by simp) _).set (a:=⟨w.heap.size+1,1,none⟩) (by simp) _).set (a:=⟨w.heap.size+1,2,none⟩) (by simp) _) (by omega)
  ·exact (((K1.setCell (p:=⟨w.heap.size,1,none⟩) (Nat.le_refl _) _).setCell (p:=⟨w.heap.size+1,0,none⟩) (by simp) _).setCell (p:=⟨w.heap.size+1,1,none⟩) (by simp) _).setCell (p:=⟨w.heap.size+1,2,none⟩) (by simp) _
set_option maxHeartbeats 1000000 in
theorem l3Copy_any (cap:Int) (s:Option Addr) (l:List Int) (c:Nat) (cl:Bool) (w:World) (hr:RowI w w.heap.size s l) (hn:l.length≤1073741824):Calls Tryz.prog 53 #[.agg #[.int .i64 cap,.slice s l.length c,.bool cl]] w fun e w'=>CopyPost cap l cl w e w':=by
 rcases Nat.eq_zero_or_pos l.length with h0 | hl0
 ·have:l=[]:=List.length_eq_zero_iff.1 h0
  subst this
  clear h0 hr
  go_enter Tryz.func53,Tryz.ntmps53
  go_wp2_with fail
  obtain ⟨W,hW,hX,K1⟩:=boxW w (.int .i64 cap) (.slice s 0 c) (.bool cl) (.int .i64 0) (.slice none 0 0) (.bool false) 65 65
  simp only [List.length_nil,hW]
  clear hW
  obtain ⟨c0,c1,c2,d0,d1,d2,f0,f1,z,z0,z1⟩:=hX
  go_region_held3 (fun w'=>w'.cell? ⟨w.heap.size,0,none⟩=some (.int .i64 cap)∧w'.cell? ⟨w.heap.size,1,none⟩=some (.slice s 0 c)∧w'.cell? ⟨w.heap.size,2,none⟩=some (.bool cl)) (go_keep) (first | (refine step_none rfl _ _ rfl rfl _ (w.heap.size+2) (.slice (some ⟨W.heap.size,0,none⟩) 0 0) [] rfl (ownN_empty (w:=W) (by omega)) s c rfl ?_))
  go_wp2
  refine bodyPost_ret (v:=.agg #[.int .i64 cap,.slice (some ⟨W.heap.size,0,none⟩) 0 0,.bool cl]) (by simp [results,Tryz.results53,go_sem,c0,c1,c2,d0,d1,d2,z1]) rfl ⟨_,rfl,?_,?_,by simp [go_sem]<;>omega⟩
  ·have h:=ownN_empty (base:=w.heap.size) (w:=((W.setCell ⟨w.heap.size+1,0,none⟩ (.int .i64 cap)).setCell ⟨w.heap.size+1,1,none⟩ (.slice (some ⟨W.heap.size,0,none⟩) 0 0)).setCell ⟨w.heap.size+1,2,none⟩ (.bool cl)) (by simp;omega)
   simp only [World.size_setCell] at h
   exact h
  ·exact Below.drew ((((K1.setCell (p:=⟨w.heap.size+1,0,none⟩) (by simp) _).setCell (p:=⟨w.heap.size+1,1,none⟩) (by simp) _).setCell (p:=⟨w.heap.size+1,2,none⟩) (by simp) _).alloc (by simp;omega) _)
 ·rcases hr with rfl | ⟨g,o,rfl,hg,hc⟩
  ·simp at hl0
  go_enter Tryz.func53,Tryz.ntmps53
  go_wp2_with fail
  obtain ⟨W,hW,hX,K1⟩:=boxW w (.int .i64 cap) (.slice (some ⟨g,o,none⟩) l.length c) (.bool cl) (.int .i64 0) (.slice none 0 0) (.bool false) 65 65
  rw [hW]
  clear hW
  have HX:=(show Hid _ from hX)
  have HC:Hid (∀ i,i < l.length→W.cell? ⟨g,o+i,none⟩=some (.int .i64 (l.getD i 0))):=fun i hi=>(K1.cell hg).trans (hc i hi)
  clear hc
  obtain ⟨c0,c1,c2,d0,d1,d2,f0,f1,z,z0,z1⟩:=hX
  have KW:Hid (Below (w.heap.size+2) W (W.alloc (.cells #[] 3)).drew):=Below.drew ((Below.refl _ _).alloc z _)
  go_region_held3 (fun w'=>w'.cell? ⟨w.heap.size,0,none⟩=some (.int .i64 cap)∧w'.cell? ⟨w.heap.size,1,none⟩=some (.slice (some ⟨g,o,none⟩) l.length c)∧w'.cell? ⟨w.heap.size,2,none⟩=some (.bool cl)) (go_keep) (first | (refine step_row rfl _ _ rfl _ (w.heap.size+2) (.slice (some ⟨W.heap.size,0,none⟩) 0 0) [] rfl (ownN_empty (w:=W) (by omega)) g o c l rfl (fun i hi=>(KW.out.cell (p:=⟨g,o+i,none⟩) (by simp;omega)).trans (HC.out i hi)) hl0 (by simp;omega) (by simp;omega) ?_;intro g1 cap1 w1 ho1 hb1 hg1 hg1';obtain ⟨c0',c1',c2',d0',d1',d2',f0',f1',z',z0',z1'⟩:=HX.out.keep (KW.out.trans hb1)))
  have HO:Hid (OwnN w1 (w.heap.size+2) (.slice (some ⟨g1,0,none⟩) l.length cap1) l):=(by simp at ho1;exact ho1)
  have K2:=K1.trans ((KW.out.trans hb1).mono (by omega))
  clear ho1 hb1
  go_wp2
  refine bodyPost_ret (v:=.agg #[.int .i64 cap,.slice (some ⟨g1,0,none⟩) l.length cap1,.bool cl]) (by simp [results,Tryz.results53,go_sem,d0',d1',d2']) rfl ⟨_,rfl,?_,?_,by simp [go_sem]<;>omega⟩
  ·exact OwnN.low (((HO.out.set (a:=⟨w.heap.size+1,0,none⟩) (by simp) _).set (a:=⟨w.heap.size+1,1,none⟩) (by simp) _).set (a:=⟨w.heap.size+1,2,none⟩) (by simp) _) (by omega)
  ·exact ((K2.setCell (p:=⟨w.heap.size+1,0,none⟩) (by simp) _).setCell (p:=⟨w.heap.size+1,1,none⟩) (by simp) _).setCell (p:=⟨w.heap.size+1,2,none⟩) (by simp) _
end
end Go.Proofs.YtknffngbdakblaaGreat
