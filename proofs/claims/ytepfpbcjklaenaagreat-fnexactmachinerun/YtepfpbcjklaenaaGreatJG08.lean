/- A row of integers that is not empty lies somewhere. No condition. Append of one integer, of a row of integers, onto a row that a call has made. Conditions: fewer than 2^30 of them. ViewOk and MemoryOk, of the program and of the specification. Conditions: lists of at most 2^20 + 100. How the laws hold two memories against each other. Conditions: they are counted. -/
import Derived.Test.YtepfpbcjklaenaaGreatJG00
import Derived.Test.YtepfpbcjklaenaaGreatJG01
import Derived.Test.YtepfpbcjklaenaaGreatJG02
import Derived.Laws.AppendOwnNone
import Derived.Deep.QuietTactic
import Derived.BigQuiet
import Derived.BigRegion
import Derived.Deep.RegionLaw
import Derived.Deep.RegionHeld3
import Derived.Deep.RegionWith
namespace Go.Proofs.YtepfpbcjklaenaaGreat
section
set_option linter.unusedSimpArgs false
set_option linter.unusedVariables false
set_option maxRecDepth 100000
open Go.RowKit
theorem IntsR.pos {w:World} {lo hi:Nat} {s:Option Addr} {l:List Int} (h:IntsR w lo hi s l) (hl:0 < l.length):∃ g off,s=some ⟨g,off,none⟩∧lo≤g∧g < hi∧∀ i,i < l.length→w.cell? ⟨g,off+i,none⟩=some (.int .i64 (l.getD i 0)):=by
 rcases h with rfl | h
 ·simp at hl
 ·exact h
end
section
set_option linter.unusedSimpArgs false
set_option linter.unusedVariables false
set_option maxRecDepth 100000
open Go.RowKit
theorem news_row {w:World} {g o:Nat} {l:List Int} (hc:∀ i,i < l.length→w.cell? ⟨g,o+i,none⟩=some (.int .i64 (l.getD i 0))):∀ j u,(l.map (Value.int .i64))[j]? =some u→w.cell? (Addr.add ⟨g,o,none⟩ j)=some u:=by
 intro j u hu
 rw [List.getElem?_map] at hu
 by_cases hj:j < l.length
 ·have e:(Addr.add ⟨g,o,none⟩ j)=⟨g,o+j,none⟩:=by
   by_cases h:j=0
   ·subst h;rfl
   ·simp [Addr.add,h]
  rw [e,hc j hj]
  rw [List.getElem?_eq_getElem hj] at hu
  simp at hu
  rw [← hu]
  simp [List.getD_eq_getElem?_getD,List.getElem?_eq_getElem hj]
 ·rw [List.getElem?_eq_none (by omega)] at hu
  cases hu
theorem app_row {ops : Array Oper} {rest : List Oper} {o : Oper} {a : Act} {Q : Exit → Act → World → Prop} (hgd : o.guard = none) (s x : Operand) (ho : o.op = .call { callee := .builtin .append, args := #[s, x], argTypes := #[41, 41] })
  (w:World) (base:Nat) (v:Value) (ls:List Int) (hs:a.eval s=v) (hown:OwnN w base v ls) (g0 o0 c:Nat) (l:List Int) (hx:a.eval x=.slice (some ⟨g0,o0,none⟩) l.length c) (hc:∀ i,i < l.length→w.cell? ⟨g0,o0+i,none⟩=some (.int .i64 (l.getD i 0)))
  (hl:0 < l.length) (hn:ls.length+l.length≤1099511627776) (hbase:base≤w.heap.size)
  (h:∀ g cap w',OwnN w' base (.slice (some ⟨g,0,none⟩) (ls.length+l.length) cap) (ls++l)→Below base w w'→g < w'.heap.size→base≤g→wpList Tryz.prog ops Q rest (a.put o.dst (.slice (some ⟨g,0,none⟩) (ls.length+l.length) cap)) w'):
  wpList Tryz.prog ops Q (o::rest) a w:=by
 obtain ⟨i0,hi,hz0,hz1,hz2⟩:=infoInt
 refine wpList_append_lies _ hgd s x 41 ho base 3 i0 _ 1 8 Tryz.underlying41 hi hz0 hz1 hz2 rfl (by decide) v ls.length _ hs hown ⟨g0,o0,none⟩ l.length c (l.map (Value.int .i64)) hx (by simp) (news_row hc) (fun u hu=>by obtain ⟨z,-,rfl⟩:=List.mem_map.1 hu;rfl) hl (by unfold maxLen;omega) (by omega) hbase _ rfl ?_
 intro g cap w' q1 q2 q3 q4
 have hb:Below base w w':=Below.grown (Below.refl _ _) q2 hbase (fun j hj=>(World.ownsRow.lt hown _ hj).1)
 have ho':OwnN w' base (.slice (some ⟨g,0,none⟩) (ls.length+l.length) cap) (ls++l):=by
  show w'.ownsRow base 3 1 _ (ls++l).length ((ls++l).map (Value.int .i64))
  rw [List.map_append,List.length_append]
  exact q1
 refine h g cap w' ho' hb q4 ?_
 rcases q3 with q3 | q3
 ·exact (World.ownsRow.lt hown _ q3).1
 ·omega
theorem step_row {ops : Array Oper} {o : Oper} {a : Act} {K : Act → World → Prop} {Q : Exit → Act → World → Prop} {E : Prop} (hgd : o.guard = none) (s x : Operand) (ho : o.op = .call { callee := .builtin .append, args := #[s, x], argTypes := #[41, 41] })
  (w:World) (base:Nat) (v:Value) (ls:List Int) (hs:a.eval s=v) (hown:OwnN w base v ls) (g0 o0 c:Nat) (l:List Int) (hx:a.eval x=.slice (some ⟨g0,o0,none⟩) l.length c) (hc:∀ i,i < l.length→w.cell? ⟨g0,o0+i,none⟩=some (.int .i64 (l.getD i 0)))
  (hl:0 < l.length) (hn:ls.length+l.length≤1099511627776) (hbase:base≤w.heap.size)
  (h:∀ g cap w',OwnN w' base (.slice (some ⟨g,0,none⟩) (ls.length+l.length) cap) (ls++l)→Below base w w'→g < w'.heap.size→base≤g→K (a.put o.dst (.slice (some ⟨g,0,none⟩) (ls.length+l.length) cap)) w'):
  if Region.wanted o (yielded ops a.tmps)=true then Oper.wp Tryz.prog o a w K Q else E:=by
 obtain ⟨i0,hi,hz0,hz1,hz2⟩:=infoInt
 refine step_append_lies _ hgd s x 41 ho base 3 i0 _ 1 8 Tryz.underlying41 hi hz0 hz1 hz2 rfl (by decide) v ls.length _ hs hown ⟨g0,o0,none⟩ l.length c (l.map (Value.int .i64)) hx (by simp) (news_row hc) (fun u hu=>by obtain ⟨z,-,rfl⟩:=List.mem_map.1 hu;rfl) hl (by unfold maxLen;omega) (by omega) hbase _ rfl ?_
 intro g cap w' q1 q2 q3 q4
 have hb:Below base w w':=Below.grown (Below.refl _ _) q2 hbase (fun j hj=>(World.ownsRow.lt hown _ hj).1)
 have ho':OwnN w' base (.slice (some ⟨g,0,none⟩) (ls.length+l.length) cap) (ls++l):=by
  show w'.ownsRow base 3 1 _ (ls++l).length ((ls++l).map (Value.int .i64))
  rw [List.map_append,List.length_append]
  exact q1
 refine h g cap w' ho' hb q4 ?_
 rcases q3 with q3 | q3
 ·exact (World.ownsRow.lt hown _ q3).1
 ·omega
theorem run_append_zero (w : World) (base : Nat) (v : Value) (ls : List Int) (hown : OwnN w base v ls) (s : Option Addr) (c : Nat) :
  (Builtin.append_ #[41,41] 41 #[v,.slice s 0 c]).run Tryz.prog w=.ok v w:=by
 obtain ⟨i0,hi,hz0,hz1,hz2⟩:=infoInt
 rcases hown.2 with ⟨rfl,-⟩ | ⟨g,cap,cur,rfl,_,_,hnc,_⟩
 ·cases s<;>simp [Builtin.append_,run_underlying Tryz.underlying41,sizeOf,typeInfo,hi,Builtin.lenOf,Builtin.firstCells,loadCells,loadCellsFrom,storeCells]
 ·cases s<;>simp [Builtin.append_,run_underlying Tryz.underlying41,sizeOf,typeInfo,hi,Builtin.lenOf,Builtin.firstCells,hnc,storeCells,loadCells,loadCellsFrom,storeCells]
structure Copied (w w':World) (sv:Option Addr) (cv:Nat) (base n:Nat) (s':Option Addr) (c':Nat):Prop where
 far:∀ k,k < w.heap.size→(Value.slice sv 0 cv).ownBlock≠some k→w'.heap[k]? =w.heap[k]?
 low:Below base w w'
 blk:∀ k,(Value.slice s' n c').ownBlock=some k→w.heap.size≤k∨(Value.slice sv 0 cv).ownBlock=some k
theorem wp_copyI {o : Oper} {a : Act} {w : World} {K : Act → World → Prop} {Q : Exit → Act → World → Prop} (s x : Operand) (hty : o.type = 41) (ho : o.op = .call { callee := .builtin .append, args := #[s, x], argTypes := #[41, 41] })
  (base:Nat) (sv:Option Addr) (cv:Nat) (hs:a.eval s=.slice sv 0 cv) (hown:OwnN w base (.slice sv 0 cv) []) (sx:Option Addr) (c:Nat) (l:List Int) {lo hi:Nat} (hx:a.eval x=.slice sx l.length c) (hr:IntsR w lo hi sx l) (hn:l.length≤1073741824) (hbase:base≤w.heap.size)
  (h:∀ s' c' w',OwnN w' base (.slice s' l.length c') l→Copied w w' sv cv base l.length s' c'→K (a.put o.dst (.slice s' l.length c')) w'):Oper.wp Tryz.prog o a w K Q:=by
 rcases hr with rfl | ⟨g,off,rfl,h1,h2,hc⟩
 ·have hrun:=run_append_zero w base _ _ hown sx c
  unfold Oper.wp
  simp at hx
  simp [execOp,ho,resolve,invoke,builtin,hs,hx,hty,hrun,Result.andThen]
  exact h sv cv w hown ⟨fun _ _ _=>rfl,Below.refl _ _,fun k hk=>.inr hk⟩
 ·rcases Nat.eq_zero_or_pos l.length with h0 | hl
  ·have e:=List.length_eq_zero_iff.1 h0
   subst e
   have hrun:=run_append_zero w base _ _ hown (some ⟨g,off,none⟩) c
   unfold Oper.wp
   simp at hx
   simp [execOp,ho,resolve,invoke,builtin,hs,hx,hty,hrun,Result.andThen]
   exact h sv cv w hown ⟨fun _ _ _=>rfl,Below.refl _ _,fun k hk=>.inr hk⟩
  ·obtain ⟨i0,hi0,hz0,hz1,hz2⟩:=infoInt
   refine wp_append_lies w s x 41 ho base 3 i0 _ 1 8 Tryz.underlying41 hi0 hz0 hz1 hz2 rfl (by decide) _ 0 _ hs hown ⟨g,off,none⟩ l.length c (l.map (Value.int .i64)) hx (by simp) (news_row hc) (fun u hu=>by obtain ⟨z,-,rfl⟩:=List.mem_map.1 hu;rfl) hl (by unfold maxLen;omega) (by omega) hbase _ rfl ?_
   intro g' cap w' q1 q2 q3 q4
   have hb:Below base w w':=Below.grown (Below.refl _ _) q2 hbase (fun j hj=>(World.ownsRow.lt hown _ hj).1)
   rw [Nat.zero_add]
   rw [Nat.zero_add] at q1
   refine h _ _ w' (by show w'.ownsRow base 3 1 _ l.length (l.map (Value.int .i64));exact q1) ⟨fun k hk hne=>q2.block k hk (fun e=>hne e.symm),hb,fun k hk=>?_⟩
   injection hk with hk
   rcases q3 with q3 | q3
   ·exact .inr (by rw [q3];exact congrArg some hk)
   ·exact .inl (by have:g'=k:=hk;omega)
theorem app_copyI {ops : Array Oper} {rest : List Oper} {o : Oper} {a : Act} {Q : Exit → Act → World → Prop} (hgd : o.guard = none) (s x : Operand) (hty : o.type = 41) (ho : o.op = .call { callee := .builtin .append, args := #[s, x], argTypes := #[41, 41] }) (w : World)
  (base:Nat) (sv:Option Addr) (cv:Nat) (hs:a.eval s=.slice sv 0 cv) (hown:OwnN w base (.slice sv 0 cv) []) (sx:Option Addr) (c:Nat) (l:List Int) {lo hi:Nat} (hx:a.eval x=.slice sx l.length c) (hr:IntsR w lo hi sx l) (hn:l.length≤1073741824) (hbase:base≤w.heap.size)
  (h:∀ s' c' w',OwnN w' base (.slice s' l.length c') l→Copied w w' sv cv base l.length s' c'→wpList Tryz.prog ops Q rest (a.put o.dst (.slice s' l.length c')) w'):wpList Tryz.prog ops Q (o::rest) a w:=
 wpList_plain hgd fun _ hK=>wp_copyI s x hty ho base sv cv hs hown sx c l hx hr hn hbase fun s' c' w' h1 h2=>hK _ _ (h s' c' w' h1 h2)
theorem step_copyI {ops : Array Oper} {o : Oper} {a : Act} {K : Act → World → Prop} {Q : Exit → Act → World → Prop} {E : Prop} (hgd : o.guard = none) (s x : Operand) (hty : o.type = 41) (ho : o.op = .call { callee := .builtin .append, args := #[s, x], argTypes := #[41, 41] }) (w : World)
  (base:Nat) (sv:Option Addr) (cv:Nat) (hs:a.eval s=.slice sv 0 cv) (hown:OwnN w base (.slice sv 0 cv) []) (sx:Option Addr) (c:Nat) (l:List Int) {lo hi:Nat} (hx:a.eval x=.slice sx l.length c) (hr:IntsR w lo hi sx l) (hn:l.length≤1073741824) (hbase:base≤w.heap.size)
  (h:∀ s' c' w',OwnN w' base (.slice s' l.length c') l→Copied w w' sv cv base l.length s' c'→K (a.put o.dst (.slice s' l.length c')) w'):if Region.wanted o (yielded ops a.tmps)=true then Oper.wp Tryz.prog o a w K Q else E:=by
 have hw:Region.wanted o (yielded ops a.tmps)=true:=by simp [Region.wanted,hgd]
 rw [if_pos hw]
 exact wp_copyI s x hty ho base sv cv hs hown sx c l hx hr hn hbase h
end
section
set_option linter.unusedSimpArgs false
set_option linter.unusedVariables false
set_option maxRecDepth 100000
open Go.RowKit
def viewB (m:List (List WD)) (l:List Int):Bool:=decide (l.length=m.length∧∀ i,i < l.length→0≤l.getD i 0∧l.getD i 0 < ((m.getD i []).length:Int))
def rowB (m:List (List WD)) (r:List WD):Bool:=decide (1≤r.length∧r.length≤4000)&&r.all (fun x=>viewB m x.vw)
def memB (m:List (List WD)):Bool:=decide (m.length=24)&&m.all (rowB m)
theorem all_take {α:Type} {p:α→Bool} {l:List α} {k:Nat} {x:α} (h:l[k]? =some x):(l.take (k+1)).all p=((l.take k).all p&&p x):=by
 rw [List.take_add_one,h,Option.toList_some,List.all_append]
 simp
theorem all_no {α:Type} {p:α→Bool} {l:List α} {k:Nat} {x:α} (h:l[k]? =some x) (hx:p x=false):l.all p=false:=by
 rw [List.all_eq_false]
 exact ⟨x,List.mem_of_getElem? h,by simp [hx]⟩
theorem belowQ {B:Nat} {w w':World} (h:Below B w w') (n:Nat):Below B w (w'.drewN n):=⟨h.os,h.tape,h.output,h.size,h.block⟩
theorem isOneOfD_any (n c:Int) (w:World):Calls Tryz.prog 69 #[.int .i64 n,.int .i64 c] w fun e w'=>e=.returned (.bool (decide (0≤n∧n < c)))∧w'=w:=by
 by_cases h:0≤n
 ·by_cases h2:n < c
  ·rw [decide_eq_true ⟨h,h2⟩]
   go_enter Tryz.func69,Tryz.ntmps69
   go_wp2
   go_ret
   exact ⟨by simp,rfl⟩
  ·rw [decide_eq_false (fun e=>h2 e.2)]
   go_enter Tryz.func69,Tryz.ntmps69
   go_wp2
   go_ret
   exact ⟨by simp,rfl⟩
 ·rw [decide_eq_false (fun e=>h e.1)]
  go_enter Tryz.func69,Tryz.ntmps69
  go_wp2
  go_ret
  exact ⟨by simp,rfl⟩
theorem l1InD_any (x a b:Int) (w:World):Calls Tryz.prog 24 #[.int .i64 x,.int .i64 a,.int .i64 b] w fun e w'=>e=.returned (.bool (decide (a≤x∧x≤b)))∧w'=w:=by
 by_cases h:x≥a
 ·by_cases h2:x≤b
  ·rw [decide_eq_true ⟨h,h2⟩]
   go_enter Tryz.func24,Tryz.ntmps24
   go_wp2
   go_ret
   exact ⟨by simp,rfl⟩
  ·rw [decide_eq_false (fun e=>h2 e.2)]
   go_enter Tryz.func24,Tryz.ntmps24
   go_wp2
   go_ret
   exact ⟨by simp,rfl⟩
 ·rw [decide_eq_false (fun e=>h e.1)]
  go_enter Tryz.func24,Tryz.ntmps24
  go_wp2
  go_ret
  exact ⟨by simp,rfl⟩
theorem l1InD_is (x lo hi:Int) (b:Bool) (w:World) (h:decide (lo≤x∧x≤hi)=b):Calls Tryz.prog 24 #[.int .i64 x,.int .i64 lo,.int .i64 hi] w fun e w'=>e=.returned (.bool b)∧w'=w:=by
 rw [← h]
 exact l1InD_any x lo hi w
set_option maxHeartbeats 2000000 in
theorem fits_any (s s' : Option Addr) (c c' lo hi lo' hi' : Nat) (m : List (List WD)) (l : List Int) (w : World) (h : MemR w lo hi s m) (h' : IntsR w lo' hi' s' l) (hB : hi ≤ w.heap.size) (hB' : hi' ≤ w.heap.size) (hl : l.length ≤ 2000000) :
  Calls Tryz.prog 118 #[.slice s' l.length c',.agg #[.slice s m.length c]] w fun e w'=>e=.returned (.bool (viewB m l))∧Below w.heap.size w w':=by
 have H:Hid (MemR w lo hi s m):=h
 have H':Hid (IntsR w lo' hi' s' l):=h'
 clear h h'
 by_cases hn:l.length=m.length
 ·have hne:((l.length:Int) !=(m.length:Int))=false:=by simp;omega
  have HN:Hid (l.length=m.length):=hn
  clear hn
  go_enter Tryz.func118,Tryz.ntmps118
  go_wp2
  obtain ⟨W,hW,bx,kb,zb⟩:=Bo1.new w (.slice s m.length c) 37
  rw [hW]
  clear hW
  have HW:Hid (MemR W lo hi s m):=H.out.keep (Keep.of_below kb hB)
  have HW':Hid (IntsR W lo' hi' s' l):=H'.out.keep (Keep.of_below kb hB')
  have c0:=bx.c0
  have HKB:Hid (Below w.heap.size w W):=kb
  have z0:w.heap.size < W.heap.size:=by omega
  clear bx kb zb
  go_loop [5,6,15] (fun _ _ i=>∃ k:Nat,k≤l.length∧i=.int .i64 k∧∀ j,j < k→0≤l.getD j 0∧l.getD j 0 < ((m.getD j []).length:Int)) (fun _ _ i=>l.length - (intOf i).toNat)
  case atStart=>exact ⟨0,Nat.zero_le _,rfl,fun j hj=>absurd hj (Nat.not_lt_zero _)⟩
  case round=>
   obtain ⟨k,hk,rfl,hj⟩:=hrel
   have HJ:Hid (∀ j,j < k→0≤l.getD j 0∧l.getD j 0 < ((m.getD j []).length:Int)):=hj
   clear hj
   by_cases hlt:k < l.length
   ·have hlt':k < m.length:=by have:=HN.out;omega
    obtain ⟨g',o',e1,a1,a2,a3⟩:=HW'.out.pos (by omega)
    obtain ⟨r,hr⟩:∃ r,m[k]? =some r:=⟨_,List.getElem?_eq_getElem hlt'⟩
    obtain ⟨g,o,s1,c1,e2,q1,q2,q3,-⟩:=HW.out.row hr
    subst e1 e2
    have f1:=a3 k hlt
    have HG:Hid (m.getD k []=r):=by show m.getD k []=r;rw [List.getD_eq_getElem?_getD,hr];rfl
    clear a3 hr
    generalize hx:l.getD k 0=x at f1
    have HX:Hid (l.getD k 0=x):=hx
    clear hx
    generalize hrn:r.length=rn at q3
    have HRN:Hid (r.length=rn):=hrn
    clear hrn
    have b0:(0:Int)≤(k:Int):=by omega
    have b1:(k:Int) < (l.length:Int):=by omega
    have b2:(k:Int) < (m.length:Int):=by omega
    have io:=isOneOfD_any x rn W
    by_cases hxy:0≤x∧x < (rn:Int)
    ·rw [decide_eq_true hxy] at io
     have HXY:Hid (0≤x∧x < (rn:Int)):=hxy
     clear hxy
     go_wp2_with (go_at_call 69;refine io.mono ?_;rintro e w9 ⟨rfl,hw9⟩;subst w9)
     go_round
     case rel=>
      refine ⟨k+1,by omega,by go_num,fun j hj=>?_⟩
      by_cases e:j < k
      ·exact HJ.out j e
      ·have:j=k:=by omega
       subst this
       rw [HX.out,HG.out,HRN.out]
       exact HXY.out
     case measure=>simp [intOf];omega
    ·rw [decide_eq_false hxy] at io
     have HXY:Hid (¬ (0≤x∧x < (rn:Int))):=hxy
     clear hxy
     go_wp2_with (go_at_call 69;refine io.mono ?_;rintro e w9 ⟨rfl,hw9⟩;subst w9)
     go_ret
     refine ⟨ret_bool' ?_,HKB.out⟩
     symm
     refine decide_eq_false (fun h=>HXY.out ?_)
     have:=h.2 k hlt
     rw [HX.out,HG.out,HRN.out] at this
     exact this
   ·go_wp2
    go_ret
    refine ⟨ret_bool' ?_,HKB.out⟩
    symm
    exact decide_eq_true ⟨HN.out,fun j hj=>HJ.out j (by omega)⟩
 ·have hne:((l.length:Int) !=(m.length:Int))=true:=by simp;omega
  have HN:Hid (¬ l.length=m.length):=hn
  clear hn
  go_enter Tryz.func118,Tryz.ntmps118
  go_wp2
  go_ret
  refine ⟨ret_bool' ?_,(Below.refl _ _).alloc (Nat.le_refl _) _⟩
  symm
  exact decide_eq_false (fun h=>HN.out h.1)
theorem implViewOk_any (s s' : Option Addr) (c c' lo hi lo' hi' : Nat) (m : List (List WD)) (l : List Int) (w : World) (h : MemR w lo hi s m) (h' : IntsR w lo' hi' s' l) (hB : hi ≤ w.heap.size) (hB' : hi' ≤ w.heap.size) (hl : l.length ≤ 2000000) :
  Calls Tryz.prog 107 #[.agg #[.slice s m.length c],.slice s' l.length c'] w fun e w'=>e=.returned (.bool (viewB m l))∧Below w.heap.size w w':=by
 have k1:Below w.heap.size w (w.alloc (.cells #[.slice s m.length c] 37)):=(Below.refl _ _).alloc (Nat.le_refl _) _
 have H:=fits_any s s' c c' lo hi lo' hi' m l (w.alloc (.cells #[.slice s m.length c] 37)) (h.keep (Keep.of_below k1 hB)) (h'.keep (Keep.of_below k1 hB')) (by simp;omega) (by simp;omega) hl
 have HK:Hid (Below w.heap.size w (w.alloc (.cells #[.slice s m.length c] 37))):=k1
 clear h h' k1
 go_enter Tryz.func107,Tryz.ntmps107
 go_wp2_with (go_at_call 118;refine H.mono ?_;rintro e w1 ⟨rfl,hb1⟩;have HB1:=(show Hid _ from hb1);clear hb1)
 go_ret
 exact ⟨rfl,HK.out.trans (HB1.out.mono (by simp))⟩
set_option maxHeartbeats 2000000 in
theorem specViewOk_any (s s' : Option Addr) (c c' lo hi lo' hi' : Nat) (m : List (List WD)) (l : List Int) (w : World) (h : MemR w lo hi s m) (h' : IntsR w lo' hi' s' l) (hB : hi ≤ w.heap.size) (hB' : hi' ≤ w.heap.size) (hl : l.length ≤ 2000000) (hm : ∀ (i : Nat) (r : List WD), m[i]? = some r → r.length ≤ 2000000) :
  Calls Tryz.prog 55 #[.agg #[.slice s m.length c],.slice s' l.length c'] w fun e w'=>e=.returned (.bool (viewB m l))∧Below w.heap.size w w':=by
 have H:Hid (MemR w lo hi s m):=h
 have H':Hid (IntsR w lo' hi' s' l):=h'
 have HM:Hid (∀ (i:Nat) (r:List WD),m[i]? =some r→r.length≤2000000):=hm
 clear h h' hm
 by_cases hn:l.length=m.length
 ·have hne:((l.length:Int) !=(m.length:Int))=false:=by simp;omega
  have HN:Hid (l.length=m.length):=hn
  clear hn
  go_enter Tryz.func55,Tryz.ntmps55
  go_wp2
  obtain ⟨W,hW,bx,kb,zb⟩:=Bo1.new w (.slice s m.length c) 37
  rw [hW]
  clear hW
  have HW:Hid (MemR W lo hi s m):=H.out.keep (Keep.of_below kb hB)
  have HW':Hid (IntsR W lo' hi' s' l):=H'.out.keep (Keep.of_below kb hB')
  have c0:=bx.c0
  have HKB:Hid (Below w.heap.size w W):=kb
  have z9:hi≤W.heap.size∧hi'≤W.heap.size:=by omega
  obtain ⟨z9,z8⟩:=z9
  have z0:w.heap.size < W.heap.size:=by omega
  clear bx kb zb
  go_loopw [5] (fun i wr=>∃ k:Nat,k≤l.length∧i=.int .i64 k∧(∀ j,j < k→0≤l.getD j 0∧l.getD j 0 < ((m.getD j []).length:Int))∧Below W.heap.size W wr) (fun i _=>l.length - (intOf i).toNat)
  case atStart=>exact ⟨0,Nat.zero_le _,rfl,fun j hj=>absurd hj (Nat.not_lt_zero _),Below.refl _ _⟩
  case round=>
   obtain ⟨k,hk,rfl,hj,hbw⟩:=hrel
   have HBW:Hid (Below W.heap.size W wr):=hbw
   have c1:=(hbw.cell (p:=⟨w.heap.size,0,none⟩) z0).trans c0
   have z1:=hbw.size
   have z2:w.heap.size < wr.heap.size:=by omega
   clear hbw
   have HJ:Hid (∀ j,j < k→0≤l.getD j 0∧l.getD j 0 < ((m.getD j []).length:Int)):=hj
   clear hj
   by_cases hlt:k < l.length
   ·have hlt':k < m.length:=by have:=HN.out;omega
    obtain ⟨g',o',e1,a1,a2,a3⟩:=(HW'.out.keep (Keep.of_below HBW.out (by omega))).pos (by omega)
    obtain ⟨r,hr⟩:∃ r,m[k]? =some r:=⟨_,List.getElem?_eq_getElem hlt'⟩
    obtain ⟨g,o,s1,c2,e2,q1,q2,q3,-⟩:=(HW.out.keep (Keep.of_below HBW.out (by omega))).row hr
    subst e1 e2
    have f1:=a3 k hlt
    have HG:Hid (m.getD k []=r):=by show m.getD k []=r;rw [List.getD_eq_getElem?_getD,hr];rfl
    have hrb:=HM.out k r hr
    clear a3 hr
    generalize hx:l.getD k 0=x at f1
    have HX:Hid (l.getD k 0=x):=hx
    clear hx
    generalize hrn:r.length=rn at q3 hrb
    have HRN:Hid (r.length=rn):=hrn
    clear hrn
    have b0:(0:Int)≤(k:Int):=by omega
    have b1:(k:Int) < (l.length:Int):=by omega
    have b2:(k:Int) < (m.length:Int):=by omega
    have hwp:IntKind.i64.wrap ((rn:Int) - 1)=(rn:Int) - 1:=Go.IntWalk.i64_in _ (by omega)
    by_cases hxy:0≤x∧x≤(rn:Int) - 1
    ·have HXY:Hid (0≤x∧x < (rn:Int)):=⟨hxy.1,by omega⟩
     have HD:Hid (decide ((0:Int)≤x∧x≤IntKind.i64.wrap ((rn:Int) - 1))=true):=by show decide _=true;rw [hwp];exact decide_eq_true hxy
     clear hxy hwp
     go_wp2_with fail
     go_quiet ((go_at_call 24;exact Calls.quiet_of_same (l1InD_is _ _ _ true _ HD.out)))
     go_wp2
     go_roundw
     case rel=>
      refine ⟨k+1,by omega,by go_num,fun j hj=>?_,belowQ HBW.out nq⟩
      by_cases e:j < k
      ·exact HJ.out j e
      ·have:j=k:=by omega
       subst this
       rw [HX.out,HG.out,HRN.out]
       exact HXY.out
     case measure=>simp [intOf];omega
    ·have HXY:Hid (¬ (0≤x∧x < (rn:Int))):=fun h=>hxy ⟨h.1,by omega⟩
     have HD:Hid (decide ((0:Int)≤x∧x≤IntKind.i64.wrap ((rn:Int) - 1))=false):=by show decide _=false;rw [hwp];exact decide_eq_false hxy
     clear hxy hwp
     go_wp2_with fail
     go_quiet ((go_at_call 24;exact Calls.quiet_of_same (l1InD_is _ _ _ false _ HD.out)))
     go_wp2
     go_ret
     refine ⟨ret_bool' ?_,HKB.out.trans ((belowQ HBW.out nq).mono (by omega))⟩
     symm
     refine decide_eq_false (fun h=>HXY.out ?_)
     have:=h.2 k hlt
     rw [HX.out,HG.out,HRN.out] at this
     exact this
   ·go_wp2
    go_ret
    refine ⟨ret_bool' ?_,HKB.out.trans (HBW.out.mono (by omega))⟩
    symm
    exact decide_eq_true ⟨HN.out,fun j hj=>HJ.out j (by omega)⟩
 ·have hne:((l.length:Int) !=(m.length:Int))=true:=by simp;omega
  have HN:Hid (¬ l.length=m.length):=hn
  clear hn
  go_enter Tryz.func55,Tryz.ntmps55
  go_wp2
  go_ret
  refine ⟨ret_bool' ?_,(Below.refl _ _).alloc (Nat.le_refl _) _⟩
  symm
  exact decide_eq_false (fun h=>HN.out h.1)
set_option maxHeartbeats 2000000 in
theorem writesOk_any (s s' : Option Addr) (c c' lo hi : Nat) (m : List (List WD)) (l : List WD) (w : World) (h : MemR w lo hi s m) (h' : WsR w lo hi s' l) (hB : hi ≤ w.heap.size) (hl : l.length + szV l ≤ 2000000) :
  Calls Tryz.prog 91 #[.agg #[.slice s m.length c],.slice s' l.length c'] w fun e w'=>e=.returned (.bool (rowB m l))∧Below w.heap.size w w':=by
 have H:Hid (MemR w lo hi s m):=h
 have H':Hid (WsR w lo hi s' l):=h'
 have HV:Hid (∀ (i:Nat) (x:WD),l[i]? =some x→x.vw.length≤2000000):=fun i x hx=>by have:=szV_at l i x hx;omega
 clear h h'
 by_cases h1:(l.length:Int) < 1
 ·have HR:Hid (rowB m l=false):=by show rowB m l=false;unfold rowB;rw [decide_eq_false (by omega)];rfl
  go_enter Tryz.func91,Tryz.ntmps91
  go_wp2
  go_ret
  exact ⟨ret_bool' HR.out.symm,(Below.refl _ _).alloc (Nat.le_refl _) _⟩
 by_cases h2:(l.length:Int) > 4000
 ·have HR:Hid (rowB m l=false):=by show rowB m l=false;unfold rowB;rw [decide_eq_false (by omega)];rfl
  go_enter Tryz.func91,Tryz.ntmps91
  go_wp2
  go_ret
  exact ⟨ret_bool' HR.out.symm,(Below.refl _ _).alloc (Nat.le_refl _) _⟩
 have HR:Hid (rowB m l=l.all (fun x=>viewB m x.vw)):=by show rowB m l=_;unfold rowB;rw [decide_eq_true (by omega)];rfl
 go_enter Tryz.func91,Tryz.ntmps91
 go_wp2
 obtain ⟨W,hW,bx,kb,zb⟩:=Bo1.new w (.slice s m.length c) 37
 rw [hW]
 clear hW
 have c0:=bx.c0
 have HKB:Hid (Below w.heap.size w W):=kb
 have z0:w.heap.size < W.heap.size:=by omega
 have z9:hi≤W.heap.size:=by omega
 have HW:Hid (MemR W lo hi s m):=H.out.keep (Keep.of_below kb hB)
 have HW':Hid (WsR W lo hi s' l):=H'.out.keep (Keep.of_below kb hB)
 clear bx kb zb
 go_loopw [17] (fun i wr=>∃ k:Nat,k≤l.length∧i=.int .i64 k∧Hid ((l.take k).all (fun x=>viewB m x.vw)=true)∧Below W.heap.size W wr) (fun i _=>l.length - (intOf i).toNat)
 case atStart=>exact ⟨0,Nat.zero_le _,rfl,show _=_ by simp,Below.refl _ _⟩
 case round=>
  obtain ⟨k,hk,rfl,HJ,hbw⟩:=hrel
  have HBW:Hid (Below W.heap.size W wr):=hbw
  have d0:=(hbw.cell (p:=⟨w.heap.size,0,none⟩) z0).trans c0
  have z1:=hbw.size
  have z2:w.heap.size < wr.heap.size:=by omega
  clear hbw
  by_cases hlt:k < l.length
  ·obtain ⟨x,hx⟩:∃ x,l[k]? =some x:=⟨_,List.getElem?_eq_getElem hlt⟩
   obtain ⟨g,o,s1,c1,e1,q1,q2,q3,q4,q5⟩:=(HW'.out.keep (Keep.of_below HBW.out z9)).at hx
   subst e1
   have hv:=HV.out k x hx
   have HI:Hid (IntsR wr lo hi s1 x.vw):=q5
   have HM:Hid (MemR wr lo hi s m):=HW.out.keep (Keep.of_below HBW.out z9)
   have HX:Hid (l[k]? =some x):=hx
   clear q5 hx
   have b0:(0:Int)≤(k:Int):=by omega
   have b1:(k:Int) < (l.length:Int):=by omega
   have zg:g < wr.heap.size:=by omega
   go_wp2_with fail
   have k2:Below wr.heap.size wr (wr.alloc (.cells #[.int .i64 x.v,.slice s1 x.vw.length c1] 127)):=(Below.refl _ _).alloc (Nat.le_refl _) _
   refine (implViewOk_any s s1 c c1 lo hi lo hi m x.vw _ (HM.out.keep (Keep.of_below k2 (by omega))) (HI.out.keep (Keep.of_below k2 (by omega))) (by simp;omega) (by simp;omega) hv).mono ?_
   rintro e w2 ⟨rfl,hb2⟩
   have HB2:Hid (Below W.heap.size W w2):=(HBW.out.trans (k2.mono z1)).trans (hb2.mono (by simp;omega))
   have HT:Hid ((l.take (k+1)).all (fun x=>viewB m x.vw)=((l.take k).all (fun x=>viewB m x.vw)&&viewB m x.vw)):=all_take HX.out
   have HF:Hid (viewB m x.vw=false→l.all (fun x=>viewB m x.vw)=false):=fun h=>all_no HX.out h
   clear hb2 k2
   generalize viewB m x.vw=b at HT HF
   cases b
   ·go_wp2
    go_ret
    exact ⟨ret_bool' (HR.out.trans (by first | exact HF.out rfl | exact HF.out trivial)).symm,HKB.out.trans (HB2.out.mono (by omega))⟩
   ·go_wp2
    go_roundw
    case rel=>exact ⟨k+1,by omega,by go_num,show _=_ by rw [HT.out,HJ.out];rfl,HB2.out⟩
    case measure=>simp [intOf];omega
  ·go_wp2
   go_ret
   have:k=l.length:=by omega
   subst this
   have hj:=HJ.out
   rw [List.take_length] at hj
   exact ⟨ret_bool' (by rw [HR.out,hj]),HKB.out.trans (HBW.out.mono (by omega))⟩
set_option maxHeartbeats 2000000 in
theorem implMemoryOk_any (s : Option Addr) (c lo hi : Nat) (m : List (List WD)) (w : World) (h : MemR w lo hi s m) (hB : hi ≤ w.heap.size) (hl : m.length + szR m ≤ 2000000) :
  Calls Tryz.prog 68 #[.agg #[.slice s m.length c]] w fun e w'=>e=.returned (.bool (memB m))∧Below w.heap.size w w':=by
 have H:Hid (MemR w lo hi s m):=h
 have HV:Hid (∀ (i:Nat) (x:List WD),m[i]? =some x→x.length+szV x≤2000000):=fun i x hx=>by have:=szR_at m i x hx;omega
 clear h
 by_cases h1:m.length=24
 ·have hne:((m.length:Int) !=24)=false:=by simp;omega
  have HR:Hid (memB m=m.all (rowB m)):=by show memB m=_;unfold memB;rw [decide_eq_true h1];rfl
  have HN:Hid (m.length=24):=h1
  clear h1
  go_enter Tryz.func68,Tryz.ntmps68
  go_wp2
  obtain ⟨W,hW,bx,kb,zb⟩:=Bo1.new w (.slice s m.length c) 37
  rw [hW]
  clear hW
  have c0:=bx.c0
  have HKB:Hid (Below w.heap.size w W):=kb
  have z0:w.heap.size < W.heap.size:=by omega
  have z9:hi≤W.heap.size:=by omega
  have HW:Hid (MemR W lo hi s m):=H.out.keep (Keep.of_below kb hB)
  clear bx kb zb
  go_loopw [4,12] (fun _ i wr=>∃ k:Nat,k≤m.length∧i=.int .i64 k∧Hid ((m.take k).all (rowB m)=true)∧Below W.heap.size W wr) (fun _ i _=>m.length - (intOf i).toNat)
  case atStart=>exact ⟨0,Nat.zero_le _,rfl,show _=_ by simp,Below.refl _ _⟩
  case round=>
   obtain ⟨k,hk,rfl,HJ,hbw⟩:=hrel
   have HBW:Hid (Below W.heap.size W wr):=hbw
   have d0:=(hbw.cell (p:=⟨w.heap.size,0,none⟩) z0).trans c0
   have z1:=hbw.size
   have z2:w.heap.size < wr.heap.size:=by omega
   clear hbw
   by_cases hlt:k < m.length
   ·obtain ⟨x,hx⟩:∃ x,m[k]? =some x:=⟨_,List.getElem?_eq_getElem hlt⟩
    obtain ⟨g,o,s1,c1,e1,q1,q2,q3,q5⟩:=(HW.out.keep (Keep.of_below HBW.out z9)).row hx
    subst e1
    have HVx:Hid (x.length+szV x≤2000000):=HV.out k x hx
    have HI:Hid (WsR wr lo hi s1 x):=q5
    have HM:Hid (MemR wr lo hi (some ⟨g,o,none⟩) m):=HW.out.keep (Keep.of_below HBW.out z9)
    have HX:Hid (m[k]? =some x):=hx
    clear q5 hx
    have b0:(0:Int)≤(k:Int):=by omega
    have b1:(k:Int) < (m.length:Int):=by omega
    have zg:g < wr.heap.size:=by omega
    go_wp2_with fail
    refine (writesOk_any (some ⟨g,o,none⟩) s1 c c1 lo hi m x wr HM.out HI.out (by omega) HVx.out).mono ?_
    rintro e w2 ⟨rfl,hb2⟩
    have HB2:Hid (Below W.heap.size W w2):=HBW.out.trans (hb2.mono z1)
    have HT:Hid ((m.take (k+1)).all (rowB m)=((m.take k).all (rowB m)&&rowB m x)):=all_take HX.out
    have HF:Hid (rowB m x=false→m.all (rowB m)=false):=fun h=>all_no HX.out h
    clear hb2
    generalize rowB m x=b at HT HF
    cases b
    ·go_wp2
     go_ret
     exact ⟨ret_bool' (HR.out.trans (by first | exact HF.out rfl | exact HF.out trivial)).symm,HKB.out.trans (HB2.out.mono (by omega))⟩
    ·go_wp2
     go_roundw
     case rel=>exact ⟨k+1,by omega,by go_num,show _=_ by rw [HT.out,HJ.out];rfl,HB2.out⟩
     case measure=>simp [intOf];omega
   ·go_wp2
    go_ret
    have:k=m.length:=by omega
    subst this
    have hj:=HJ.out
    rw [List.take_length] at hj
    exact ⟨ret_bool' (by rw [HR.out,hj]),HKB.out.trans (HBW.out.mono (by omega))⟩
 ·have hne:((m.length:Int) !=24)=true:=by simp;omega
  have HR:Hid (memB m=false):=by show memB m=false;unfold memB;rw [decide_eq_false h1];rfl
  go_enter Tryz.func68,Tryz.ntmps68
  go_wp2
  go_ret
  exact ⟨ret_bool' HR.out.symm,(Below.refl _ _).alloc (Nat.le_refl _) _⟩
set_option maxHeartbeats 2000000 in
theorem specMemoryOk_any (s : Option Addr) (c lo hi : Nat) (m : List (List WD)) (w : World) (h : MemR w lo hi s m) (hB : hi ≤ w.heap.size) (hl : m.length + szR m ≤ 2000000) :
  Calls Tryz.prog 53 #[.agg #[.slice s m.length c]] w fun e w'=>e=.returned (.bool (memB m))∧Below w.heap.size w w':=by
 have H:Hid (MemR w lo hi s m):=h
 have HV:Hid (∀ (i:Nat) (x:List WD),m[i]? =some x→x.length+szV x≤2000000):=fun i x hx=>by have:=szR_at m i x hx;omega
 clear h
 by_cases h1:m.length=24
 ·have hne:((m.length:Int) !=24)=false:=by simp;omega
  have HR:Hid (memB m=m.all (rowB m)):=by show memB m=_;unfold memB;rw [decide_eq_true h1];rfl
  have HN:Hid (m.length=24):=h1
  clear h1
  go_enter Tryz.func53,Tryz.ntmps53
  go_wp2
  obtain ⟨W,hW,bx,kb,zb⟩:=Bo1.new w (.slice s m.length c) 37
  rw [hW]
  clear hW
  have c0:=bx.c0
  have HKB:Hid (Below w.heap.size w W):=kb
  have z0:w.heap.size < W.heap.size:=by omega
  have z9:hi≤W.heap.size:=by omega
  have HW:Hid (MemR W lo hi s m):=H.out.keep (Keep.of_below kb hB)
  clear bx kb zb
  go_loopw [3,4] (fun i _ wr=>∃ k:Nat,k≤24∧i=.int .i64 k∧Hid ((m.take k).all (rowB m)=true)∧Below W.heap.size W wr) (fun i _ _=>24 - (intOf i).toNat)
  case atStart=>exact ⟨0,Nat.zero_le _,rfl,show _=_ by simp,Below.refl _ _⟩
  case round=>
   obtain ⟨k,hk,rfl,HJ,hbw⟩:=hrel
   have HBW:Hid (Below W.heap.size W wr):=hbw
   have d0:=(hbw.cell (p:=⟨w.heap.size,0,none⟩) z0).trans c0
   have z1:=hbw.size
   have z2:w.heap.size < wr.heap.size:=by omega
   clear hbw
   by_cases hlt:k < 24
   ·obtain ⟨x,hx⟩:∃ x,m[k]? =some x:=⟨_,List.getElem?_eq_getElem (by have:=HN.out;omega)⟩
    obtain ⟨g,o,s1,c1,e1,q1,q2,q3,q5⟩:=(HW.out.keep (Keep.of_below HBW.out z9)).row hx
    subst e1
    have hvx:=HV.out k x hx
    have HVx:Hid (x.length+szV x≤2000000):=hvx
    have HI:Hid (WsR W lo hi s1 x):=by
     obtain ⟨g2,o2,s2,c2,e2,r1,r2,r3,r5⟩:=HW.out.row hx
     injection e2 with e2;injection e2 with e2 e3 e4
     subst e2 e3
     have r4:=(HBW.out.cell (p:=⟨g,o+k,none⟩) (by show g < _;omega)).trans r3
     rw [q3] at r4
     injection r4 with r4;injection r4 with r4 r6 r7
     rw [r4]
     exact r5
    have HX:Hid (m[k]? =some x):=hx
    have HT:Hid ((m.take (k+1)).all (rowB m)=((m.take k).all (rowB m)&&rowB m x)):=all_take hx
    have HF:Hid (rowB m x=false→m.all (rowB m)=false):=fun h=>all_no HX.out h
    have hxl:x.length≤2000000:=by omega
    clear q5 hx hvx
    have b0:(0:Int)≤(k:Int):=by omega
    have b1:(k:Int) < 24:=by omega
    have b1':(k:Int) < (m.length:Int):=by have:=HN.out;omega
    have zg:g < wr.heap.size:=by omega
    have io:=l1InD_any (x.length:Int) 1 4000 wr
    by_cases hin:(1:Int)≤x.length∧(x.length:Int)≤4000
    ·rw [decide_eq_true hin] at io
     have HRX:Hid (rowB m x=x.all (fun x=>viewB m x.vw)):=by show rowB m x=_;unfold rowB;rw [decide_eq_true (by omega)];rfl
     clear hin
     have HIw:Hid (WsR wr lo hi s1 x):=HI.out.keep (Keep.of_below HBW.out z9)
     have HMw:Hid (MemR wr lo hi (some ⟨g,o,none⟩) m):=HW.out.keep (Keep.of_below HBW.out z9)
     go_wp2_with (go_at_call 24;refine io.mono ?_;rintro e w9 ⟨rfl,hw9⟩;subst w9)
     clear io
     rename World=>wo
     go_loopw [4] (fun i wr=>∃ j:Nat,j≤x.length∧i=.int .i64 j∧Hid ((x.take j).all (fun x=>viewB m x.vw)=true)∧Below wo.heap.size wo wr) (fun i _=>x.length - (intOf i).toNat)
     case atStart=>exact ⟨0,Nat.zero_le _,rfl,show _=_ by simp,Below.refl _ _⟩
     case round=>
      obtain ⟨j,hj,rfl,HJ2,hbo⟩:=hrel
      have HBO:Hid (Below wo.heap.size wo wr):=hbo
      have d1:=(hbo.cell (p:=⟨w.heap.size,0,none⟩) z2).trans d0
      have d2:=(hbo.cell (p:=⟨g,o+k,none⟩) zg).trans q3
      have z3:=hbo.size
      have z4:w.heap.size < wr.heap.size:=by omega
      have z5:g < wr.heap.size:=by omega
      clear hbo
      by_cases hjt:j < x.length
      ·obtain ⟨y,hy⟩:∃ y,x[j]? =some y:=⟨_,List.getElem?_eq_getElem hjt⟩
       obtain ⟨g',o',s2,c2,e2,r1,r2,r3,r4,r5⟩:=(HIw.out.keep (Keep.of_below HBO.out (by omega))).at hy
       subst e2
       have HMr:Hid (MemR wr lo hi (some ⟨g,o,none⟩) m):=HMw.out.keep (Keep.of_below HBO.out (by omega))
       have HIr:Hid (IntsR wr lo hi s2 y.vw):=r5
       have hyl:y.vw.length≤2000000:=by have:=szV_at x j y hy;have:=HVx.out;omega
       have HVr:Hid (∀ (i:Nat) (r:List WD),m[i]? =some r→r.length≤2000000):=fun i r hr=>by have:=HV.out i r hr;omega
       have HT2:Hid ((x.take (j+1)).all (fun x=>viewB m x.vw)=((x.take j).all (fun x=>viewB m x.vw)&&viewB m y.vw)):=all_take hy
       have HF2:Hid (viewB m y.vw=false→x.all (fun x=>viewB m x.vw)=false):=fun h=>all_no hy h
       clear r5 hy r3
       have z6:g' < wr.heap.size:=by omega
       have b2:(0:Int)≤(j:Int):=by omega
       have b3:(j:Int) < (x.length:Int):=by omega
       go_wp2_with fail
       go_region_held3 (fun w'=>w'.cell? ⟨w.heap.size,0,none⟩=some (.slice (some ⟨g,o,none⟩) m.length c)∧w'.cell? ⟨g,o+k,none⟩=some (.slice (some ⟨g',o',none⟩) x.length c1)∧w'.cell? ⟨g',o'+j * 2+1,none⟩=some (.slice s2 y.vw.length c2)) (go_keep) ((go_at_call 55;refine (specViewOk_any (some ⟨g,o,none⟩) s2 c c2 lo hi lo hi m y.vw wr.drew HMr.out HIr.out (by show hi≤wr.heap.size;omega) (by show hi≤wr.heap.size;omega) hyl HVr.out).mono ?_;rintro e w3 ⟨rfl,hb3⟩;have t1:=(hb3.cell (p:=⟨w.heap.size,0,none⟩) (show w.heap.size < wr.heap.size by omega)).trans d1;have t2:=(hb3.cell (p:=⟨g,o+k,none⟩) (show g < wr.heap.size by omega)).trans d2;have t3:=(hb3.cell (p:=⟨g',o'+j * 2+1,none⟩) (show g' < wr.heap.size by omega)).trans r4))
       have HB3:Hid (Below wo.heap.size wo w3):=HBO.out.trans ((show Below wr.heap.size wr w3 from ⟨hb3.os,hb3.tape,hb3.output,hb3.size,hb3.block⟩).mono z3)
       clear hb3 t1 t2 t3
       generalize viewB m y.vw=b at HT2 HF2
       cases b
       ·go_wp2
        go_ret
        exact ⟨ret_bool' (HR.out.trans (HF.out (HRX.out.trans (by first | exact HF2.out rfl | exact HF2.out trivial)))).symm,HKB.out.trans ((HBW.out.trans (HB3.out.mono (by omega))).mono (by omega))⟩
       ·go_wp2
        go_roundw
        case rel=>exact ⟨j+1,by omega,by go_num,show _=_ by rw [HT2.out,HJ2.out];rfl,HB3.out⟩
        case measure=>simp [intOf];omega
      ·go_wp2
       go_roundw
       case rel=>
        have:j=x.length:=by omega
        subst this
        have hj:=HJ2.out
        rw [List.take_length] at hj
        exact ⟨k+1,by omega,by go_num,show _=_ by rw [HT.out,HJ.out,HRX.out,hj];rfl,HBW.out.trans (HBO.out.mono (by omega))⟩
       case measure=>simp [intOf];omega
    ·rw [decide_eq_false hin] at io
     have HRX:Hid (rowB m x=false):=by show rowB m x=_;unfold rowB;rw [decide_eq_false (by omega)];rfl
     clear hin
     go_wp2_with (go_at_call 24;refine io.mono ?_;rintro e w9 ⟨rfl,hw9⟩;subst w9)
     go_ret
     exact ⟨ret_bool' (by rw [HR.out,HF.out HRX.out]),HKB.out.trans (HBW.out.mono (by omega))⟩
   ·go_wp2
    go_ret
    have hj:=HJ.out
    rw [List.take_of_length_le (by have:=HN.out;omega)] at hj
    exact ⟨ret_bool' (by rw [HR.out,hj]),HKB.out.trans (HBW.out.mono (by omega))⟩
 ·have hne:((m.length:Int) !=24)=true:=by simp;omega
  have HR:Hid (memB m=false):=by show memB m=false;unfold memB;rw [decide_eq_false h1];rfl
  go_enter Tryz.func53,Tryz.ntmps53
  go_wp2
  go_ret
  exact ⟨ret_bool' HR.out.symm,(Below.refl _ _).alloc (Nat.le_refl _) _⟩
end
section
set_option linter.unusedSimpArgs false
set_option linter.unusedVariables false
set_option maxRecDepth 100000
open Go.RowKit
set_option maxHeartbeats 1000000 in
theorem eqWrite_alike (v : Int) (s s' : Option Addr) (l : List Int) (c c' lo hi lo' hi' : Nat) (w : World) (h : IntsR w lo hi s l) (h' : IntsR w lo' hi' s' l) (hB : hi ≤ w.heap.size) (hB' : hi' ≤ w.heap.size) (hl : l.length ≤ 1000000000) :
  Calls Tryz.prog 114 #[.agg #[.int .i64 v,.slice s l.length c],.agg #[.int .i64 v,.slice s' l.length c']] w fun e w'=>e=.returned (.bool true)∧Below w.heap.size w w':=by
 have HR:Hid (IntsR w lo hi s l):=h
 have HR':Hid (IntsR w lo' hi' s' l):=h'
 clear h h'
 have hd:(v !=v)=false:=by simp
 go_enter Tryz.func114,Tryz.ntmps114
 go_wp2_with fail
 refine (eqIntS_any s s' l l c c' _ ((HR.out.keep (Keep.of_below (((Below.refl w.heap.size w).alloc (Nat.le_refl _) _).alloc (by simp) _) hB)).ints (by simp;omega)) ((HR'.out.keep (Keep.of_below (((Below.refl w.heap.size w).alloc (Nat.le_refl _) _).alloc (by simp) _) hB')).ints (by simp;omega)) (by omega)).mono ?_
 rintro e w1 ⟨rfl,m1,rfl⟩
 rw [decide_eq_true (rfl:l=l)]
 go_wp2
 go_ret
 exact ⟨rfl,(((Below.refl w.heap.size w).alloc (Nat.le_refl _) _).alloc (by simp) _).trans ⟨rfl,rfl,rfl,Nat.le_refl _,fun _ _=>rfl⟩⟩
set_option maxHeartbeats 2000000 in
theorem eqWriteS_alike (s s' : Option Addr) (c c' lo hi lo' hi' : Nat) (l : List WD) (w : World) (h : WsR w lo hi s l) (h' : WsR w lo' hi' s' l) (hB : hi ≤ w.heap.size) (hB' : hi' ≤ w.heap.size) (hl : l.length + szV l ≤ 2000000) :
  Calls Tryz.prog 95 #[.slice s l.length c,.slice s' l.length c'] w fun e w'=>e=.returned (.bool true)∧Below w.heap.size w w':=by
 have H1:Hid (WsR w lo hi s l):=h
 have H2:Hid (WsR w lo' hi' s' l):=h'
 have Q3:Hid (∀ (i:Nat) (t:WD),l[i]? =some t→t.vw.length≤2000000):=fun i t ht=>by have:=szV_at l i t ht;omega
 have hl1:l.length≤2000000:=by omega
 clear h h' hl
 have hne:((l.length:Int) !=(l.length:Int))=false:=by simp
 go_enter Tryz.func95,Tryz.ntmps95
 go_wp2
 go_loopw [5] (fun i wr=>∃ k:Nat,k≤l.length∧i=.int .i64 k∧Below w.heap.size w wr) (fun i _=>l.length - (intOf i).toNat)
 case atStart=>exact ⟨0,Nat.zero_le _,rfl,Below.refl _ _⟩
 case round=>
  obtain ⟨k,hk,rfl,hb⟩:=hrel
  have HB:Hid (Below w.heap.size w wr):=hb
  have hsz:=hb.size
  clear hb
  by_cases hlt:k < l.length
  ·obtain ⟨t,ht⟩:∃ t,l[k]? =some t:=⟨_,List.getElem?_eq_getElem hlt⟩
   obtain ⟨g,off,s1,c1,hs,g1,g2,f0,f1,hin⟩:=(H1.out.keep (Keep.of_below HB.out hB)).at ht
   obtain ⟨g',off',s2,c2,hs',g1',g2',f0',f1',hin'⟩:=(H2.out.keep (Keep.of_below HB.out hB')).at ht
   subst hs
   subst hs'
   have hlen:=Q3.out k t ht
   obtain ⟨v,rg⟩:=t
   simp only at f0 f1 f0' f1' hin hin' hlen
   have HI1:Hid (IntsR wr lo hi s1 rg):=hin
   have HI2:Hid (IntsR wr lo' hi' s2 rg):=hin'
   clear hin hin' ht
   have b0:(0:Int)≤(k:Int):=by omega
   have b1:(k:Int) < (l.length:Int):=by omega
   go_wp2_with fail
   first | go_region_with (go_at_call 114;refine (eqWrite_alike v s1 s2 rg c1 c2 lo hi lo' hi' _ ?_ ?_ ?_ ?_ (by omega)).mono ?_;(exact HI1.out);(exact HI2.out);(first | omega | (simp;omega));(first | omega | (simp;omega));rintro e w1 ⟨rfl,hb1⟩) | fail
   all_goals
    have HB1:Hid (Below wr.heap.size wr w1):=⟨hb1.os,hb1.tape,hb1.output,hb1.size,hb1.block⟩
    clear hb1
    go_wp2
    go_roundw
    case rel=>exact ⟨k+1,by omega,by go_num,HB.out.trans (HB1.out.mono hsz)⟩
    case measure=>simp [intOf];omega
  ·go_wp2
   go_ret
   exact ⟨rfl,HB.out⟩
set_option maxHeartbeats 2000000 in
theorem eqWriteSS_alike (s s' : Option Addr) (c c' lo hi lo' hi' : Nat) (m : List (List WD)) (w : World) (h : MemR w lo hi s m) (h' : MemR w lo' hi' s' m) (hB : hi ≤ w.heap.size) (hB' : hi' ≤ w.heap.size) (hl : m.length + szR m ≤ 2000000) :
  Calls Tryz.prog 73 #[.slice s m.length c,.slice s' m.length c'] w fun e w'=>e=.returned (.bool true)∧Below w.heap.size w w':=by
 have H1:Hid (MemR w lo hi s m):=h
 have H2:Hid (MemR w lo' hi' s' m):=h'
 have Q3:Hid (∀ (i:Nat) (t:List WD),m[i]? =some t→t.length+szV t≤2000000):=fun i t ht=>by have:=szR_at m i t ht;omega
 have hl1:m.length≤2000000:=by omega
 clear h h' hl
 have hne:((m.length:Int) !=(m.length:Int))=false:=by simp
 go_enter Tryz.func73,Tryz.ntmps73
 go_wp2
 go_loopw [5] (fun i wr=>∃ k:Nat,k≤m.length∧i=.int .i64 k∧Below w.heap.size w wr) (fun i _=>m.length - (intOf i).toNat)
 case atStart=>exact ⟨0,Nat.zero_le _,rfl,Below.refl _ _⟩
 case round=>
  obtain ⟨k,hk,rfl,hb⟩:=hrel
  have HB:Hid (Below w.heap.size w wr):=hb
  have hsz:=hb.size
  clear hb
  by_cases hlt:k < m.length
  ·obtain ⟨t,ht⟩:∃ t,m[k]? =some t:=⟨_,List.getElem?_eq_getElem hlt⟩
   obtain ⟨g,off,s1,c1,hs,g1,g2,f0,hin⟩:=(H1.out.keep (Keep.of_below HB.out hB)).row ht
   obtain ⟨g',off',s2,c2,hs',g1',g2',f0',hin'⟩:=(H2.out.keep (Keep.of_below HB.out hB')).row ht
   subst hs
   subst hs'
   have hlen:=Q3.out k t ht
   have HI1:Hid (WsR wr lo hi s1 t):=hin
   have HI2:Hid (WsR wr lo' hi' s2 t):=hin'
   have HL:Hid (t.length+szV t≤2000000):=hlen
   clear hin hin' ht hlen
   have b0:(0:Int)≤(k:Int):=by omega
   have b1:(k:Int) < (m.length:Int):=by omega
   go_wp2_with fail
   first | go_region_with (go_at_call 95;refine (eqWriteS_alike s1 s2 c1 c2 lo hi lo' hi' t _ ?_ ?_ ?_ ?_ HL.out).mono ?_;(exact HI1.out);(exact HI2.out);(first | omega | (simp;omega));(first | omega | (simp;omega));rintro e w1 ⟨rfl,hb1⟩) | fail
   all_goals
    have HB1:Hid (Below wr.heap.size wr w1):=⟨hb1.os,hb1.tape,hb1.output,hb1.size,hb1.block⟩
    clear hb1
    go_wp2
    go_roundw
    case rel=>exact ⟨k+1,by omega,by go_num,HB.out.trans (HB1.out.mono hsz)⟩
    case measure=>simp [intOf];omega
  ·go_wp2
   go_ret
   exact ⟨rfl,HB.out⟩
set_option maxHeartbeats 1000000 in
theorem eqMemory_alike (s s' : Option Addr) (c c' lo hi lo' hi' : Nat) (m : List (List WD)) (w : World) (h : MemR w lo hi s m) (h' : MemR w lo' hi' s' m) (hB : hi ≤ w.heap.size) (hB' : hi' ≤ w.heap.size) (hl : m.length + szR m ≤ 2000000) :
  Calls Tryz.prog 36 #[.agg #[.slice s m.length c],.agg #[.slice s' m.length c']] w fun e w'=>e=.returned (.bool true)∧Below w.heap.size w w':=by
 have H1:Hid (MemR w lo hi s m):=h
 have H2:Hid (MemR w lo' hi' s' m):=h'
 have HL:Hid (m.length+szR m≤2000000):=hl
 clear h h' hl
 go_enter Tryz.func36,Tryz.ntmps36
 go_wp2_with fail
 have k1:Below w.heap.size w ((w.alloc (.cells #[.slice s m.length c] 37)).alloc (.cells #[.slice s' m.length c'] 37)):=((Below.refl w.heap.size w).alloc (Nat.le_refl _) _).alloc (by simp) _
 refine (eqWriteSS_alike s s' c c' lo hi lo' hi' m _ (H1.out.keep (Keep.of_below k1 hB)) (H2.out.keep (Keep.of_below k1 hB')) (by simp;omega) (by simp;omega) HL.out).mono ?_
 rintro e w1 ⟨rfl,hb1⟩
 go_wp2
 go_ret
 exact ⟨rfl,k1.trans (hb1.mono (by simp;omega))⟩
end
end Go.Proofs.YtepfpbcjklaenaaGreat
