/- StepOk of the specification (package spec), at every step and every count of places, in every world: it returns what the plain law says; it makes memory, and turns none. No condition. Lists of steps: when code is right; the laws' counting and comparing of lists. Conditions: lists of at most 1048576 steps where they are compared. A row of integers that is not empty lies somewhere. No condition. Append of one integer, of a row of integers, onto a row that a call has made. Conditions: fewer than 2^30 of them. -/
import Derived.Test.YtlbeploopclegaaGreatPG00
import Derived.Test.YtlbeploopclegaaGreatPC7SpA
import Derived.Test.YtlbeploopclegaaGreatPC7SpB
import Derived.Test.YtlbeploopclegaaGreatPC7SpC
import Derived.Test.YtlbeploopclegaaGreatPC7SpD
import Derived.Test.YtlbeploopclegaaGreatPC7SpE
import Derived.Test.YtlbeploopclegaaGreatPG01
import Derived.Test.YtlbeploopclegaaGreatPG05
import Derived.Deep.RegionHeld3
import Derived.Laws.AppendOwnNone
import Derived.Deep.QuietTactic
import Derived.BigQuiet
import Derived.BigRegion
import Derived.Deep.RegionLaw
namespace Go.Proofs.YtlbeploopclegaaGreat
section
set_option linter.unusedSimpArgs false
set_option linter.unusedVariables false
set_option maxRecDepth 100000
open Go.RowKit
theorem specStepOk_any (op r a b n pl:Int) (w:World):Calls Tryz.prog 83 #[.agg #[.int .i64 op,.int .i64 r,.int .i64 a,.int .i64 b,.int .i64 n],.int .i64 pl] w fun e w'=>e=.returned (.bool (Plain.stepB op r a b n pl))∧Below w.heap.size w w':=by
 have no:∀ {e:Ending} {w':World},Plain.stepB op r a b n pl=false→e=.returned (.bool false)∧Below w.heap.size w w'→e=.returned (.bool (Plain.stepB op r a b n pl))∧Below w.heap.size w w':=fun h h'=>by rw [h];exact h'
 by_cases e5:op=5
 ·subst e5
  cases h1:Plain.inB r 0 7
  ·exact (specBadR_5 r a b n pl w h1).mono fun e w' h=>no (by simp [Plain.inB] at h1;simp [Plain.stepB];omega) h
  cases h2:Plain.inB b 0 7
  ·exact (specBadB_5 r a b n pl w h1 h2).mono fun e w' h=>no (by simp [Plain.inB] at h2;simp [Plain.stepB];omega) h
  cases h3:Plain.inB a 0 7
  ·by_cases h4:a=-1
   ·subst h4
    exact specGood_5m r b n pl w h1 h2
   ·exact (specBadA_5 r a b n pl w h1 h2 h3 (by simpa using h4)).mono fun e w' h=>no (by simp [Plain.inB] at h3;simp [Plain.stepB];omega) h
  ·exact specGood_5 r a b n pl w h1 h2 h3
 by_cases e6:op=6
 ·subst e6
  cases h1:Plain.inB r 0 7
  ·exact (specBadR_6 r a b n pl w h1).mono fun e w' h=>no (by simp [Plain.inB] at h1;simp [Plain.stepB];omega) h
  cases h2:Plain.inB b 0 7
  ·exact (specBadB_6 r a b n pl w h1 h2).mono fun e w' h=>no (by simp [Plain.inB] at h2;simp [Plain.stepB];omega) h
  cases h3:Plain.inB a 0 7
  ·by_cases h4:a=-1
   ·subst h4
    exact specGood_6m r b n pl w h1 h2
   ·exact (specBadA_6 r a b n pl w h1 h2 h3 (by simpa using h4)).mono fun e w' h=>no (by simp [Plain.inB] at h3;simp [Plain.stepB];omega) h
  ·exact specGood_6 r a b n pl w h1 h2 h3
 by_cases e7:op=7
 ·subst e7
  cases h1:Plain.inB r 0 7
  ·exact (specBadR_7 r a b n pl w h1).mono fun e w' h=>no (by simp [Plain.inB] at h1;simp [Plain.stepB];omega) h
  cases h2:Plain.inB b 0 7
  ·exact (specBadB_7 r a b n pl w h1 h2).mono fun e w' h=>no (by simp [Plain.inB] at h2;simp [Plain.stepB];omega) h
  cases h3:Plain.inB a 0 7
  ·by_cases h4:a=-1
   ·subst h4
    exact specGood_7m r b n pl w h1 h2
   ·exact (specBadA_7 r a b n pl w h1 h2 h3 (by simpa using h4)).mono fun e w' h=>no (by simp [Plain.inB] at h3;simp [Plain.stepB];omega) h
  ·exact specGood_7 r a b n pl w h1 h2 h3
 have o5:(op==5)=false:=by simpa using e5
 have o6:(op==6)=false:=by simpa using e6
 have o7:(op==7)=false:=by simpa using e7
 cases h1:Plain.inB r 0 7
 ·exact (specBadR_x op r a b n pl w o5 o6 o7 h1).mono fun e w' h=>no (by simp [Plain.inB] at h1;simp [Plain.stepB];omega) h
 cases h2:Plain.inB b 0 7
 ·exact (specBadB_x op r a b n pl w o5 o6 o7 h1 h2).mono fun e w' h=>no (by simp [Plain.inB] at h2;simp [Plain.stepB];omega) h
 cases h3:Plain.inB a 0 7
 ·exact (specBadA_x op r a b n pl w o5 o6 o7 h1 h2 h3).mono fun e w' h=>no (by simp [Plain.inB] at h3;simp [Plain.stepB];omega) h
 by_cases e1:op=1
 ·subst e1;exact specGood_1 r a b n pl w h1 h2 h3
 by_cases e2:op=2
 ·subst e2;exact specGood_2 r a b n pl w h1 h2 h3
 by_cases e3:op=3
 ·subst e3;exact specGood_3 r a b n pl w h1 h2 h3
 by_cases e4:op=4
 ·subst e4;exact specGood_4 r a b n pl w h1 h2 h3
 by_cases e8:op=8
 ·subst e8;exact specGood_8 r a b n pl w h1 h2 h3
 by_cases e9:op=9
 ·subst e9;exact specGood_9 r a b n pl w h1 h2 h3
 by_cases e10:op=10
 ·subst e10;exact specGood_10 r a b n pl w h1 h2 h3
 by_cases e11:op=11
 ·subst e11;exact specGood_11 r a b n pl w h1 h2 h3
 by_cases e12:op=12
 ·subst e12;exact specGood_12 r a b n pl w h1 h2 h3
 by_cases e13:op=13
 ·subst e13;exact specGood_13 r a b n pl w h1 h2 h3
 exact specGood_0 op r a b n pl w (by simpa using e1) (by simpa using e2) (by simpa using e3) (by simpa using e4) (by simpa using e5) (by simpa using e6) (by simpa using e7) (by simpa using e8) (by simpa using e9) (by simpa using e10) (by simpa using e11) (by simpa using e12) (by simpa using e13) h1 h2 h3
end
section
set_option linter.unusedSimpArgs false
set_option linter.unusedVariables false
set_option maxRecDepth 100000
open Go.RowKit
def stX (x:I5) (pl:Int):Bool:=Plain.stepB x.o x.r x.a x.b x.n pl
def lastB (l:List I5):Bool:=Plain.endB (l.getD (l.length - 1) z5).o
def codeB (l:List I5):Bool:=decide (∀ i,i < l.length→stX (l.getD i z5) l.length=true)&&(decide (1≤l.length∧l.length≤800)&&lastB l)
theorem code_no {l:List I5} {k:Nat} (hk:k < l.length) (h:stX (l.getD k z5) l.length=false):codeB l=false:=by
 have:decide (∀ i,i < l.length→stX (l.getD i z5) l.length=true)=false:=by
  rw [decide_eq_false_iff_not]
  intro H
  rw [H k hk] at h
  cases h
 unfold codeB
 rw [this]
 rfl
theorem code_all {l:List I5} (h:∀ i,i < l.length→stX (l.getD i z5) l.length=true):codeB l=(decide (1≤l.length∧l.length≤800)&&lastB l):=by
 unfold codeB
 rw [decide_eq_true h]
 simp
theorem code_short {l:List I5} (h:Plain.inB (l.length:Int) 1 800=false):codeB l=false:=by
 have:decide (1≤l.length∧l.length≤800)=false:=by
  rw [decide_eq_false_iff_not]
  simp [Plain.inB] at h
  omega
 unfold codeB
 rw [this]
 simp
set_option maxHeartbeats 1000000 in
theorem eqStepS_same (s s' : Option Addr) (c c' B : Nat) (l : List I5) (w : World) (h : InsB w B s l) (h' : InsB w B s' l) (hB : B ≤ w.heap.size) (hl : l.length ≤ 1048576) :
  Calls Tryz.prog 70 #[.slice s l.length c,.slice s' l.length c'] w fun e w'=>e=.returned (.bool true)∧Below w.heap.size w w':=by
 rcases h with rfl | ⟨g,off,rfl,hg,hc⟩
 ·go_enter Tryz.func70,Tryz.ntmps70
  go_wp2
  go_loop [5] (fun i=>i=.int .i64 0) (fun _=>0)
  case atStart=>rfl
  case round=>
   subst hrel
   go_wp2
   go_ret
   exact ⟨rfl,Below.refl _ _⟩
 ·rcases h' with rfl | ⟨g',off',rfl,hg',hc'⟩
  ·go_enter Tryz.func70,Tryz.ntmps70
   go_wp2
   go_loop [5] (fun i=>i=.int .i64 0) (fun _=>0)
   case atStart=>rfl
   case round=>
    subst hrel
    go_wp2
    go_ret
    exact ⟨rfl,Below.refl _ _⟩
  ·have hne:((l.length:Int) !=(l.length:Int))=false:=by simp
   have HC:Hid (∀ i,i < l.length→At5 w g (off+i * 5) (l.getD i z5)):=hc
   have HC':Hid (∀ i,i < l.length→At5 w g' (off'+i * 5) (l.getD i z5)):=hc'
   clear hc hc'
   go_enter Tryz.func70,Tryz.ntmps70
   go_wp2
   go_loopw [5] (fun i wr=>∃ k:Nat,k≤l.length∧i=.int .i64 k∧Below w.heap.size w wr) (fun i _=>l.length - (intOf i).toNat)
   case atStart=>exact ⟨0,Nat.zero_le _,rfl,Below.refl _ _⟩
   case round=>
    obtain ⟨k,hk,rfl,hb⟩:=hrel
    have HB:Hid (Below w.heap.size w wr):=hb
    clear hb
    by_cases hlt:k < l.length
    ·obtain ⟨f0,f1,f2,f3,f4⟩:=(HC.out k hlt).keep HB.out (by omega)
     obtain ⟨f0',f1',f2',f3',f4'⟩:=(HC'.out k hlt).keep HB.out (by omega)
     generalize l.getD k z5=x at f0 f1 f2 f3 f4 f0' f1' f2' f3' f4'
     obtain ⟨xo,xr,xa,xb,xn⟩:=x
     have b0:(0:Int)≤(k:Int):=by omega
     have b1:(k:Int) < (l.length:Int):=by omega
     go_wp2_with fail
     first | go_region_with (go_at_call 101;refine (eqStep_same _ _ _ _ _ _).mono ?_;rintro e w1 ⟨rfl,hb1⟩) | fail
     all_goals
      have HB1:Hid (Below wr.heap.size wr w1):=⟨hb1.os,hb1.tape,hb1.output,hb1.size,hb1.block⟩
      have hs1:=HB.out.size
      clear hb1
      go_wp2
      go_roundw
      case rel=>exact ⟨k+1,by omega,by go_num,HB.out.trans (HB1.out.mono hs1)⟩
      case measure=>simp [intOf];omega
    ·go_wp2
     go_ret
     exact ⟨rfl,HB.out⟩
end
section
set_option linter.unusedSimpArgs false
set_option linter.unusedVariables false
set_option maxRecDepth 100000
open Go.RowKit
theorem IntsR.pos {w:World} {lo hi:Nat} {s:Option Addr} {l:List Int} (h:IntsR w lo hi s l) (hl:0 < l.length):∃ g off,s=some ⟨g,off,none⟩∧lo≤g∧g < hi∧∀ i,i < l.length→w.cell? ⟨g,off+i,none⟩=some (.int .i64 (l.getD i 0)):=by
 rcases h with rfl | h
 ·simp at hl
 ·exact h
end
section
set_option linter.unusedSimpArgs false
set_option linter.unusedVariables false
set_option maxRecDepth 100000
open Go.RowKit
theorem news_row {w:World} {g o:Nat} {l:List Int} (hc:∀ i,i < l.length→w.cell? ⟨g,o+i,none⟩=some (.int .i64 (l.getD i 0))):∀ j u,(l.map (Value.int .i64))[j]? =some u→w.cell? (Addr.add ⟨g,o,none⟩ j)=some u:=by
 intro j u hu
 rw [List.getElem?_map] at hu
 by_cases hj:j < l.length
 ·have e:(Addr.add ⟨g,o,none⟩ j)=⟨g,o+j,none⟩:=by
   by_cases h:j=0
   ·subst h;rfl
   ·simp [Addr.add,h]
  rw [e,hc j hj]
  rw [List.getElem?_eq_getElem hj] at hu
  simp at hu
  rw [← hu]
  simp [List.getD_eq_getElem?_getD,List.getElem?_eq_getElem hj]
 ·rw [List.getElem?_eq_none (by omega)] at hu
  cases hu
theorem app_row {ops : Array Oper} {rest : List Oper} {o : Oper} {a : Act} {Q : Exit → Act → World → Prop} (hgd : o.guard = none) (s x : Operand) (ho : o.op = .call { callee := .builtin .append, args := #[s, x], argTypes := #[51, 51] })
  (w:World) (base:Nat) (v:Value) (ls:List Int) (hs:a.eval s=v) (hown:OwnN w base v ls) (g0 o0 c:Nat) (l:List Int) (hx:a.eval x=.slice (some ⟨g0,o0,none⟩) l.length c) (hc:∀ i,i < l.length→w.cell? ⟨g0,o0+i,none⟩=some (.int .i64 (l.getD i 0)))
  (hl:0 < l.length) (hn:ls.length+l.length≤1099511627776) (hbase:base≤w.heap.size)
  (h:∀ g cap w',OwnN w' base (.slice (some ⟨g,0,none⟩) (ls.length+l.length) cap) (ls++l)→Below base w w'→g < w'.heap.size→base≤g→wpList Tryz.prog ops Q rest (a.put o.dst (.slice (some ⟨g,0,none⟩) (ls.length+l.length) cap)) w'):
  wpList Tryz.prog ops Q (o::rest) a w:=by
 obtain ⟨i0,hi,hz0,hz1,hz2⟩:=infoInt
 refine wpList_append_lies _ hgd s x 51 ho base 3 i0 _ 1 8 Tryz.underlying51 hi hz0 hz1 hz2 rfl (by decide) v ls.length _ hs hown ⟨g0,o0,none⟩ l.length c (l.map (Value.int .i64)) hx (by simp) (news_row hc) (fun u hu=>by obtain ⟨z,-,rfl⟩:=List.mem_map.1 hu;rfl) hl (by unfold maxLen;omega) (by omega) hbase _ rfl ?_
 intro g cap w' q1 q2 q3 q4
 have hb:Below base w w':=Below.grown (Below.refl _ _) q2 hbase (fun j hj=>(World.ownsRow.lt hown _ hj).1)
 have ho':OwnN w' base (.slice (some ⟨g,0,none⟩) (ls.length+l.length) cap) (ls++l):=by
  show w'.ownsRow base 3 1 _ (ls++l).length ((ls++l).map (Value.int .i64))
  rw [List.map_append,List.length_append]
  exact q1
 refine h g cap w' ho' hb q4 ?_
 rcases q3 with q3 | q3
 ·exact (World.ownsRow.lt hown _ q3).1
 ·omega
theorem step_row {ops : Array Oper} {o : Oper} {a : Act} {K : Act → World → Prop} {Q : Exit → Act → World → Prop} {E : Prop} (hgd : o.guard = none) (s x : Operand) (ho : o.op = .call { callee := .builtin .append, args := #[s, x], argTypes := #[51, 51] })
  (w:World) (base:Nat) (v:Value) (ls:List Int) (hs:a.eval s=v) (hown:OwnN w base v ls) (g0 o0 c:Nat) (l:List Int) (hx:a.eval x=.slice (some ⟨g0,o0,none⟩) l.length c) (hc:∀ i,i < l.length→w.cell? ⟨g0,o0+i,none⟩=some (.int .i64 (l.getD i 0)))
  (hl:0 < l.length) (hn:ls.length+l.length≤1099511627776) (hbase:base≤w.heap.size)
  (h:∀ g cap w',OwnN w' base (.slice (some ⟨g,0,none⟩) (ls.length+l.length) cap) (ls++l)→Below base w w'→g < w'.heap.size→base≤g→K (a.put o.dst (.slice (some ⟨g,0,none⟩) (ls.length+l.length) cap)) w'):
  if Region.wanted o (yielded ops a.tmps)=true then Oper.wp Tryz.prog o a w K Q else E:=by
 obtain ⟨i0,hi,hz0,hz1,hz2⟩:=infoInt
 refine step_append_lies _ hgd s x 51 ho base 3 i0 _ 1 8 Tryz.underlying51 hi hz0 hz1 hz2 rfl (by decide) v ls.length _ hs hown ⟨g0,o0,none⟩ l.length c (l.map (Value.int .i64)) hx (by simp) (news_row hc) (fun u hu=>by obtain ⟨z,-,rfl⟩:=List.mem_map.1 hu;rfl) hl (by unfold maxLen;omega) (by omega) hbase _ rfl ?_
 intro g cap w' q1 q2 q3 q4
 have hb:Below base w w':=Below.grown (Below.refl _ _) q2 hbase (fun j hj=>(World.ownsRow.lt hown _ hj).1)
 have ho':OwnN w' base (.slice (some ⟨g,0,none⟩) (ls.length+l.length) cap) (ls++l):=by
  show w'.ownsRow base 3 1 _ (ls++l).length ((ls++l).map (Value.int .i64))
  rw [List.map_append,List.length_append]
  exact q1
 refine h g cap w' ho' hb q4 ?_
 rcases q3 with q3 | q3
 ·exact (World.ownsRow.lt hown _ q3).1
 ·omega
theorem run_append_zero (w : World) (base : Nat) (v : Value) (ls : List Int) (hown : OwnN w base v ls) (s : Option Addr) (c : Nat) :
  (Builtin.append_ #[51,51] 51 #[v,.slice s 0 c]).run Tryz.prog w=.ok v w:=by
 obtain ⟨i0,hi,hz0,hz1,hz2⟩:=infoInt
 rcases hown.2 with ⟨rfl,-⟩ | ⟨g,cap,cur,rfl,_,_,hnc,_⟩
 ·cases s<;>simp [Builtin.append_,run_underlying Tryz.underlying51,sizeOf,typeInfo,hi,Builtin.lenOf,Builtin.firstCells,loadCells,loadCellsFrom,storeCells]
 ·cases s<;>simp [Builtin.append_,run_underlying Tryz.underlying51,sizeOf,typeInfo,hi,Builtin.lenOf,Builtin.firstCells,hnc,storeCells,loadCells,loadCellsFrom,storeCells]
structure Copied (w w':World) (sv:Option Addr) (cv:Nat) (base n:Nat) (s':Option Addr) (c':Nat):Prop where
 far:∀ k,k < w.heap.size→(Value.slice sv 0 cv).ownBlock≠some k→w'.heap[k]? =w.heap[k]?
 low:Below base w w'
 blk:∀ k,(Value.slice s' n c').ownBlock=some k→w.heap.size≤k∨(Value.slice sv 0 cv).ownBlock=some k
theorem wp_copyI {o : Oper} {a : Act} {w : World} {K : Act → World → Prop} {Q : Exit → Act → World → Prop} (s x : Operand) (hty : o.type = 51) (ho : o.op = .call { callee := .builtin .append, args := #[s, x], argTypes := #[51, 51] })
  (base:Nat) (sv:Option Addr) (cv:Nat) (hs:a.eval s=.slice sv 0 cv) (hown:OwnN w base (.slice sv 0 cv) []) (sx:Option Addr) (c:Nat) (l:List Int) {lo hi:Nat} (hx:a.eval x=.slice sx l.length c) (hr:IntsR w lo hi sx l) (hn:l.length≤1073741824) (hbase:base≤w.heap.size)
  (h:∀ s' c' w',OwnN w' base (.slice s' l.length c') l→Copied w w' sv cv base l.length s' c'→K (a.put o.dst (.slice s' l.length c')) w'):Oper.wp Tryz.prog o a w K Q:=by
 rcases hr with rfl | ⟨g,off,rfl,h1,h2,hc⟩
 ·have hrun:=run_append_zero w base _ _ hown sx c
  unfold Oper.wp
  simp at hx
  simp [execOp,ho,resolve,invoke,builtin,hs,hx,hty,hrun,Result.andThen]
  exact h sv cv w hown ⟨fun _ _ _=>rfl,Below.refl _ _,fun k hk=>.inr hk⟩
 ·rcases Nat.eq_zero_or_pos l.length with h0 | hl
  ·have e:=List.length_eq_zero_iff.1 h0
   subst e
   have hrun:=run_append_zero w base _ _ hown (some ⟨g,off,none⟩) c
   unfold Oper.wp
   simp at hx
   simp [execOp,ho,resolve,invoke,builtin,hs,hx,hty,hrun,Result.andThen]
   exact h sv cv w hown ⟨fun _ _ _=>rfl,Below.refl _ _,fun k hk=>.inr hk⟩
  ·obtain ⟨i0,hi0,hz0,hz1,hz2⟩:=infoInt
   refine wp_append_lies w s x 51 ho base 3 i0 _ 1 8 Tryz.underlying51 hi0 hz0 hz1 hz2 rfl (by decide) _ 0 _ hs hown ⟨g,off,none⟩ l.length c (l.map (Value.int .i64)) hx (by simp) (news_row hc) (fun u hu=>by obtain ⟨z,-,rfl⟩:=List.mem_map.1 hu;rfl) hl (by unfold maxLen;omega) (by omega) hbase _ rfl ?_
   intro g' cap w' q1 q2 q3 q4
   have hb:Below base w w':=Below.grown (Below.refl _ _) q2 hbase (fun j hj=>(World.ownsRow.lt hown _ hj).1)
   rw [Nat.zero_add]
   rw [Nat.zero_add] at q1
   refine h _ _ w' (by show w'.ownsRow base 3 1 _ l.length (l.map (Value.int .i64));exact q1) ⟨fun k hk hne=>q2.block k hk (fun e=>hne e.symm),hb,fun k hk=>?_⟩
   injection hk with hk
   rcases q3 with q3 | q3
   ·exact .inr (by rw [q3];exact congrArg some hk)
   ·exact .inl (by have:g'=k:=hk;omega)
theorem app_copyI {ops : Array Oper} {rest : List Oper} {o : Oper} {a : Act} {Q : Exit → Act → World → Prop} (hgd : o.guard = none) (s x : Operand) (hty : o.type = 51) (ho : o.op = .call { callee := .builtin .append, args := #[s, x], argTypes := #[51, 51] }) (w : World)
  (base:Nat) (sv:Option Addr) (cv:Nat) (hs:a.eval s=.slice sv 0 cv) (hown:OwnN w base (.slice sv 0 cv) []) (sx:Option Addr) (c:Nat) (l:List Int) {lo hi:Nat} (hx:a.eval x=.slice sx l.length c) (hr:IntsR w lo hi sx l) (hn:l.length≤1073741824) (hbase:base≤w.heap.size)
  (h:∀ s' c' w',OwnN w' base (.slice s' l.length c') l→Copied w w' sv cv base l.length s' c'→wpList Tryz.prog ops Q rest (a.put o.dst (.slice s' l.length c')) w'):wpList Tryz.prog ops Q (o::rest) a w:=
 wpList_plain hgd fun _ hK=>wp_copyI s x hty ho base sv cv hs hown sx c l hx hr hn hbase fun s' c' w' h1 h2=>hK _ _ (h s' c' w' h1 h2)
theorem step_copyI {ops : Array Oper} {o : Oper} {a : Act} {K : Act → World → Prop} {Q : Exit → Act → World → Prop} {E : Prop} (hgd : o.guard = none) (s x : Operand) (hty : o.type = 51) (ho : o.op = .call { callee := .builtin .append, args := #[s, x], argTypes := #[51, 51] }) (w : World)
  (base:Nat) (sv:Option Addr) (cv:Nat) (hs:a.eval s=.slice sv 0 cv) (hown:OwnN w base (.slice sv 0 cv) []) (sx:Option Addr) (c:Nat) (l:List Int) {lo hi:Nat} (hx:a.eval x=.slice sx l.length c) (hr:IntsR w lo hi sx l) (hn:l.length≤1073741824) (hbase:base≤w.heap.size)
  (h:∀ s' c' w',OwnN w' base (.slice s' l.length c') l→Copied w w' sv cv base l.length s' c'→K (a.put o.dst (.slice s' l.length c')) w'):if Region.wanted o (yielded ops a.tmps)=true then Oper.wp Tryz.prog o a w K Q else E:=by
 have hw:Region.wanted o (yielded ops a.tmps)=true:=by simp [Region.wanted,hgd]
 rw [if_pos hw]
 exact wp_copyI s x hty ho base sv cv hs hown sx c l hx hr hn hbase h
end
end Go.Proofs.YtlbeploopclegaaGreat
