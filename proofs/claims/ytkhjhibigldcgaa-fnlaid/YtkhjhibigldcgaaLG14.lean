/- Rows of steps that a draw makes and grows: as long as every cell is a number they read as a list of steps. No condition. A drawn code is right, and its steps are known. Conditions: the cursor and its bytes lie in memory as the reading says. Drawn picks: a row of its own, of few. Conditions: the cursor and its bytes lie in memory as the reading says; at most 40 rounds. First steps, without a program: where each place begins, what the map of first steps holds, what its keys are when they are told sorted. Conditions: bodies of at most 24 places, each of a kind that there is. ProgOk of the program, at every program whose lists are of at most 1048576 each; and how the laws hold two equal programs against each other. The body that is asked for: nothing where there is none. Conditions: programs that fit. The body that is asked for, without a program. The code of a body, without a program: the code of its places, one behind the other. Conditions: bodies that are right. A scope in which the run jumps to several labels: what holds at each jump, and a measure that each pass from a label lowers. No condition. The map of first steps. Conditions: bodies of at most 24 places, each of a kind that there is. The first steps of a body, told sorted out of the map. Conditions: bodies of at most 24 places, each of a kind that there is. The code of a body: what codeOf of the program answers. Conditions: bodies that are right, at most 2^20 channels. Rows of rows of steps that a call has made: marked, and looked at again. Conditions: as with rows of rows of places. Compile of the program. Conditions: programs that fit. -/
import Derived.Test.YtkhjhibigldcgaaLG00
import Derived.Test.YtkhjhibigldcgaaLG06
import Derived.Test.YtkhjhibigldcgaaLG12
import Derived.Test.YtkhjhibigldcgaaLDrawBodyR
import Derived.Test.YtkhjhibigldcgaaLG08
import Derived.Test.YtkhjhibigldcgaaLG13
import Derived.Test.YtkhjhibigldcgaaLG03
import Derived.Deep.AppendLies
import Derived.Deep.Slices
import Derived.Laws.OwnMore
import Derived.Test.YtkhjhibigldcgaaLG02
import Derived.Test.YtkhjhibigldcgaaLG07
import Derived.Test.YtkhjhibigldcgaaLDraw1
import Derived.Test.YtkhjhibigldcgaaLG09
import Derived.Test.YtkhjhibigldcgaaLProgOk
import Derived.Test.YtkhjhibigldcgaaLG01
import Derived.Maps.Range
import Derived.Maps.Ext
import Derived.ScopeJumps
import Derived.WalkMore
import Derived.WalkKit
import Derived.Maps.OwnOps
import Derived.Maps.OwnSet
import Derived.Maps.RangeWalk
import Derived.Deep.RegionHeld3
import Derived.Deep.QuietTactic
import Derived.BigQuiet
import Derived.Deep.RegionWith
namespace Go.Proofs.Ytkhjhibigldcgaa
section
set_option linter.unusedSimpArgs false
set_option linter.unusedVariables false
set_option maxRecDepth 100000
open Go.RowKit Go.Deep
end
section
set_option linter.unusedSimpArgs false
set_option linter.unusedVariables false
set_option maxRecDepth 100000
open Go.RowKit
end
section
set_option linter.unusedSimpArgs false
set_option linter.unusedVariables false
set_option maxRecDepth 100000
open Go.RowKit
theorem rnM_sz:∀ (l:List ND) {d:MD},machB d=true→(rnM d l).mem.length+szR (rnM d l).mem≤d.mem.length+szR d.mem+25 * l.length
 | [],_,_=>by simp [rnM]
 | x::r,d,h=>by
  have h1:=(stepM_sz x.who x.v h).2
  have h2:=rnM_sz r (stepM_ok x.who x.v h)
  have e:rnM d (x::r)=rnM (stepM d x.who x.v).1 r:=rfl
  rw [e,List.length_cons]
  omega
theorem rnM_cds:∀ (l:List ND) {d:MD},machB d=true→(rnM d l).codes=d.codes
 | [],_,_=>rfl
 | x::r,d,h=>(rnM_cds r (stepM_ok x.who x.v h)).trans (stepM_sz x.who x.v h).1
theorem max_at (a:Int) (w:World):Calls Try.prog 50 #[.int .i64 a,.int .i64 1] w fun e w'=>e=.returned (.int .i64 (if a < 1 then 1 else a))∧w'=w:=by
 by_cases h:a < 1
 ·have h1:¬ 1 < a:=by omega
  rw [if_pos h]
  go_enter Try.func50,Try.ntmps50
  go_wp2
  go_ret
  exact ⟨rfl,rfl⟩
 ·by_cases h2:a=1
  ·subst h2
   rw [if_neg h]
   go_enter Try.func50,Try.ntmps50
   go_wp2
   go_ret
   exact ⟨rfl,rfl⟩
  have h1:1 < a:=by omega
  rw [if_neg h]
  go_enter Try.func50,Try.ntmps50
  go_wp2
  go_ret
  exact ⟨rfl,rfl⟩
structure PkD (w wr:World) (p:Nat) (s:Option Addr) (n c:Nat) (m:Nat) (v:Value) (l:List ND):Prop where
 o:OwnPk wr w.heap.size v l
 le:l.length≤m
 v3:∀ x∈l,0≤x.v∧x.v≤3
 cb:CBx158 wr p s n c
 bt:But p w wr
theorem PkD.but {w wr w':World} {p n c m:Nat} {s:Option Addr} {v:Value} {l:List ND} (h:PkD w wr p s n c m v l) (hp:p < w.heap.size) (hc:CBx158 w' p s n c) (hb:But p wr w'):PkD w w' p s n c m v l:=
 ⟨ownKeep' h.o (fun k hk=>by have:=World.ownsRow.lt h.o _ hk;exact hb.block k this.2 (by omega)),h.le,h.v3,hc,h.bt.trans hb⟩
theorem PkD.add {w wr w':World} {p n c m g cap:Nat} {s:Option Addr} {v:Value} {l:List ND} {who x:Int} (h:PkD w wr p s n c m v l) (hp:p < w.heap.size) (x0:0≤x) (x1:x < 4) (ho:w'.ownsRow w.heap.size 91 2 (.slice (some ⟨g,0,none⟩) (l.length+1) cap) (l.length+1) (flatN l++[.int .i64 who,.int .i64 x])) (hg:(wr.alloc (.cells #[.int .i64 who,.int .i64 x] 91)).grownBy w' v.ownBlock):PkD w w' p s n c (m+1) (.slice (some ⟨g,0,none⟩) (l.length+1) cap) (l++[⟨who,x⟩]):=by
 have hr:∀ k,v.ownBlock=some k→w.heap.size≤k:=fun k hk=>(World.ownsRow.lt h.o _ hk).1
 refine ⟨?_,by have:=h.le;simp;omega,fun y hy=>?_,(h.cb.alloc _).grown hg (fun k hk=>by have:=hr k hk;omega),(h.bt.alloc _).grown hg hr⟩
 ·unfold OwnPk
  rw [flatN_app,List.length_append]
  exact ho
 ·rcases List.mem_append.1 hy with e | e
  ·exact h.v3 y e
  ·simp at e;subst e;exact ⟨x0,by show x≤3;omega⟩
theorem PkD.wide {w wr:World} {p n c m m':Nat} {s:Option Addr} {v:Value} {l:List ND} (h:PkD w wr p s n c m v l) (e:m≤m'):PkD w wr p s n c m' v l:=⟨h.o,Nat.le_trans h.le e,h.v3,h.cb,h.bt⟩
set_option maxRecDepth 100000 in
set_option maxHeartbeats 4000000 in
theorem drawPicks_ok (p : Nat) (s : Option Addr) (n c : Nat) (k : Nat) (most : Int) (w : World) (h : CBx158 w p s n c) (hk : k ≤ 200) (hm0 : 0 ≤ most) (hm : most ≤ 40) :
  Calls Try.prog 39 #[.pointer (some ⟨p,0,none⟩),.int .i64 k,.int .i64 most] w fun e w'=>∃ (v:Value) (l:List ND),e=.returned v∧PkD w w' p s n c 240 v l:=by
 have hp:=h.lt
 have H0:Hid (CBx158 w p s n c):=h
 clear h
 go_enter Try.func39,Try.ntmps39
 go_wp2_with fail
 refine (below_cb p s n c (most+1) _ (H0.out.alloc _) (by omega) (by omega)).mono ?_
 rintro e w4 ⟨q,rfl,q0,q1,hc4,hb4⟩
 have Q:Hid (0≤q∧q≤40):=by show _∧_;omega
 have P0:Hid (PkD w w4 p s n c 0 (.slice (some ⟨w.heap.size,0,none⟩) 0 0) []):=by
  refine ⟨?_,by simp,fun x hx=>by simp at hx,hc4,((But.refl _ _).alloc _).trans hb4⟩
  have h0:=World.ownsRow_lit (base:=w.heap.size) (e:=91) (size:=2) w #[] 0 (Nat.le_refl _) (by unfold maxLen;omega) rfl
  exact ownKeep' h0 (fun k hk=>by have:=World.ownsRow.lt h0 _ hk;exact hb4.block k this.2 (by omega))
 clear hc4 hb4 q0 q1
 go_wp2_with fail
 go_loopw [7,9] (fun v i wr=>∃ (j:Nat) (l:List ND),(j:Int)≤q∧i=.int .i64 j∧PkD w wr p s n c (j * 6) v l) (fun _ i _=>40 - (intOf i).toNat)
 case atStart=>exact ⟨0,[],by have:=Q.out;omega,rfl,P0.out⟩
 case round=>
  obtain ⟨j,l,hj,rfl,hd⟩:=hrel
  have D:=hidM1 hd
  clear hd
  have hzr:=D.out.bt.size
  by_cases hlt:(j:Int) < q
  ·have hj20:(j:Int) < 40:=by have:=Q.out;omega
   go_wp2_with fail
   refine (max_at (k:Int) wr).mono ?_
   rintro e w5 ⟨rfl,hw⟩
   have hw':=hw.symm
   clear hw
   subst hw'
   have g0:0 < (if (k:Int) < 1 then (1:Int) else k):=by split<;>omega
   have g1:(if (k:Int) < 1 then (1:Int) else k)≤256:=by split<;>omega
   generalize (if (k:Int) < 1 then (1:Int) else k)=cc at g0 g1 ⊢
   go_wp2_with fail
   refine (below_cb p s n c cc wr D.out.cb g0 g1).mono ?_
   rintro e w5 ⟨who,rfl,-,-,hc5,hb5⟩
   have D5:=hidM1 (D.out.but hp hc5 hb5)
   clear hc5 hb5 D g0 g1
   go_wp2_with fail
   go_loopw [7,11] (fun v i wr=>∃ (k:Nat) (l:List ND),k≤6∧i=.int .i64 k∧PkD w wr p s n c (j * 6+k) v l) (fun _ i _=>6 - (intOf i).toNat)
   case atStart=>exact ⟨0,l,by omega,rfl,D5.out⟩
   case round=>
    obtain ⟨k2,l2,hk2,rfl,hd⟩:=hrel
    have D:=hidM1 hd
    clear hd D5
    have hzr2:=D.out.bt.size
    go_wp2_with fail
    refine (below_cb p s n c 6 wr D.out.cb (by omega) (by omega)).mono ?_
    rintro e w6 ⟨x,rfl,x0,x1,hc6,hb6⟩
    have D6:=hidM1 (D.out.but hp hc6 hb6)
    have hzr3:=D6.out.bt.size
    clear hc6 hb6 D
    by_cases hl2:(k2:Int) < 1+x
    ·have hk3:k2 < 6:=by omega
     go_wp2_with fail
     refine (below_cb p s n c 4 w6 D6.out.cb (by omega) (by omega)).mono ?_
     rintro e w7 ⟨y,rfl,y0,y1,hc7,hb7⟩
     have D7:=hidM1 (D6.out.but hp hc7 hb7)
     have hzr4:=D7.out.bt.size
     have O7:Hid (OwnPk (w7.alloc (.cells #[.int .i64 who,.int .i64 y] 91)) w.heap.size u7 l2):=ownKeep' D7.out.o (fun q hq=>Below.heap_alloc w7 _ _ (World.ownsRow.lt D7.out.o _ hq).2)
     clear hc7 hb7 D6
     go_wp2_with (at_builtin;refine app_pick rfl _ _ rfl (w7.alloc (.cells #[.int .i64 who,.int .i64 y] 91)) w.heap.size u7 l2.length (flatN l2) rfl O7.out w7.heap.size (.int .i64 who) (.int .i64 y) rfl rfl rfl (by simp [go_sem]) (by simp [go_sem]) (by have:=D7.out.le;have:=Q.out;omega) (by simp;omega) ?_;intro g5 cap5 w8 ho8 hb8 hf8 hl8;have D8:=hidM1 (D7.out.add hp y0 y1 ho8 hb8);clear ho8 hb8 hf8)
     go_roundw
     case rel=>exact ⟨k2+1,l2++[⟨who,y⟩],by omega,by go_num,D8.out⟩
     case measure=>simp [intOf];omega
    ·go_wp2_with fail
     go_roundw
     case rel=>exact ⟨j+1,l2,by omega,by go_num,D6.out.wide (by omega)⟩
     case measure=>simp [intOf];have:=Q.out;omega
  ·go_wp2
   go_ret
   exact ⟨_,rfl,l,D.out.wide (by have:=Q.out;omega)⟩
end
section
set_option linter.unusedSimpArgs false
set_option linter.unusedVariables false
set_option maxRecDepth 100000
open Go.RowKit Go.Maps
theorem hidP {p:Prop} (h:p):Hid p:=h
def stV (l:List I5):Nat→Int
 | 0=>0
 | n+1=>stV l n+sizeV (l.getD n z5).o
def stL (l:List I5) (n:Nat):List Int:=(List.range n).map (stV l)
structure Rt (l:List I5):Prop where
 len:l.length≤24
 sz:∀ i,i < l.length→1≤sizeV (l.getD i z5).o∧sizeV (l.getD i z5).o≤32
theorem rt_nil:Rt []:=⟨Nat.zero_le _,fun i hi=>absurd hi (Nat.not_lt_zero _)⟩
theorem size_op {o:Int} (h1:1≤o) (h2:o≤13):1≤sizeV o∧sizeV o≤32:=by
 unfold sizeV
 repeat' split
 all_goals omega
theorem insB_op {o r a b n pl ch:Int} (h:Plain.insB o r a b n pl ch=true):1≤o∧o≤13:=by
 simp only [Plain.insB,decide_eq_true_eq] at h
 omega
theorem bodyB_rt {l:List I5} {ch:Int} (h:bodyB l ch=true):Rt l∧1≤l.length:=by
 simp only [bodyB,Bool.and_eq_true,decide_eq_true_eq] at h
 exact ⟨⟨h.2.1.2,fun i hi=>by obtain ⟨h1,h2⟩:=insB_op (h.1 i hi);exact size_op h1 h2⟩,h.2.1.1⟩
theorem progB_body {p:PD} (h:progB p=true) {i:Nat} (hi:i < p.bods.length):Rt (p.bods.getD i [])∧1≤(p.bods.getD i []).length:=by
 simp only [progB,bodsB,Bool.and_eq_true,decide_eq_true_eq] at h
 exact bodyB_rt (h.2.1 i hi)
theorem progB_len {p:PD} (h:progB p=true):1≤p.bods.length∧p.bods.length≤4∧p.caps.length≤3∧∀ i,i < p.caps.length→1≤p.caps.getD i 0∧p.caps.getD i 0≤4:=by
 simp only [progB,capsB,Plain.inB,Bool.and_eq_true,decide_eq_true_eq] at h
 refine ⟨by omega,by omega,h.2.2.1,h.1⟩
theorem stV_step {l:List I5} (h:Rt l) {i:Nat} (hi:i < l.length):stV l i+1≤stV l (i+1)∧stV l (i+1)≤stV l i+32:=by
 have:=h.sz i hi
 simp only [stV]
 omega
theorem stV_bd {l:List I5} (h:Rt l):∀ i,i≤l.length→0≤stV l i∧stV l i≤32 * i
 | 0,_=>by simp [stV]
 | i+1,hi=>by have:=stV_bd h i (by omega);have:=stV_step h (i:=i) (by omega);omega
theorem stV_lt {l:List I5} (h:Rt l) {i:Nat}:∀ j,i < j→j≤l.length→stV l i < stV l j
 | 0,h1,_=>absurd h1 (Nat.not_lt_zero _)
 | j+1,h1,h2=>by
  have s:=stV_step h (i:=j) (by omega)
  rcases Nat.lt_or_ge i j with h3 | h3
  ·have:=stV_lt h j h3 (by omega);omega
  ·have:i=j:=by omega
   subst this
   omega
theorem stV_big {l:List I5} (h:Rt l) {i:Nat} (hi:i≤l.length):0≤stV l i∧stV l i≤768:=by
 have:=stV_bd h i hi
 have:=h.len
 omega
theorem stL_len (l:List I5) (n:Nat):(stL l n).length=n:=by simp [stL]
theorem stL_at (l:List I5) {n i:Nat} (hi:i < n):(stL l n).getD i 0=stV l i:=by simp [stL,List.getD_eq_getElem?_getD,hi]
theorem stL_succ (l:List I5) (n:Nat):stL l (n+1)=stL l n++[stV l n]:=by simp [stL,List.range_succ]
/- the map of first steps -/
def mpD (l:List I5):Nat→DataW Unit
 | 0=>.map []
 | n+1=>(mpD l n).put (.int .i64 (stV l n)) (.lit (.int .i64 n))
theorem mpD_map (l:List I5):∀ n,IsMap (mpD l n)
 | 0=>isMap_empty
 | n+1=>(mpD_map l n).put _ _
theorem isK (x:Int):WideAt.IsKeyLit (Lit.int .i64 x):=trivial
theorem ne_key {x y:Int} (h:x≠y):Lit.int .i64 x≠Lit.int .i64 y:=fun e=>h (by simpa using e)
theorem mpD_has {l:List I5} (x:Int):∀ n,Maps.has (mpD l n) (.int .i64 x)=true↔∃ i,i < n∧stV l i=x
 | 0=>by simp [mpD,Maps.has]
 | n+1=>by
  by_cases e:x=stV l n
  ·subst e
   rw [mpD,has_put_same (mpD_map l n) (isK _)]
   exact ⟨fun _=>⟨n,Nat.lt_succ_self _,rfl⟩,fun _=>rfl⟩
  ·rw [mpD,has_put_other (ne_key e),mpD_has x n]
   constructor
   ·rintro ⟨i,hi,h⟩;exact ⟨i,by omega,h⟩
   ·rintro ⟨i,hi,h⟩
    refine ⟨i,?_,h⟩
    have:i≠n:=fun e'=>e (by rw [← h,e'])
    omega
/- the place that a step belongs to -/
theorem place_is {l:List I5} {at':Int}:∀ n,0≤at'→at' < stV l n→∃ i,i < n∧stV l i≤at'∧at' < stV l (i+1)
 | 0,h0,h1=>by simp [stV] at h1;omega
 | n+1,h0,h1=>by
  by_cases h2:at' < stV l n
  ·obtain ⟨i,hi,h⟩:=place_is n h0 h2
   exact ⟨i,by omega,h⟩
  ·exact ⟨n,Nat.lt_succ_self _,by omega,h1⟩
theorem place_one {l:List I5} (h:Rt l) {at':Int} {i j:Nat} (hi:i < l.length) (hj:j < l.length) (a1:stV l i≤at') (a2:at' < stV l (i+1)) (b1:stV l j≤at') (b2:at' < stV l (j+1)):i=j:=by
 rcases Nat.lt_trichotomy i j with h1 | h1 | h1
 ·rcases Nat.lt_or_ge (i+1) j with h2 | h2
  ·have:=stV_lt h j h2 (by omega);omega
  ·have:i+1=j:=by omega
   rw [this] at a2;omega
 ·exact h1
 ·rcases Nat.lt_or_ge (j+1) i with h2 | h2
  ·have:=stV_lt h i h2 (by omega);omega
  ·have:j+1=i:=by omega
   rw [this] at b2;omega
end
section
set_option linter.unusedSimpArgs false
set_option linter.unusedVariables false
set_option maxRecDepth 100000
open Go.RowKit
end
section
set_option linter.unusedSimpArgs false
set_option linter.unusedVariables false
set_option maxRecDepth 100000
open Go.RowKit
def bodV (p:PD) (b:Int):List I5:=if progB p=true∧0≤b∧b < p.bods.length then p.bods.getD b.toNat [] else []
theorem bodV_rt (p:PD) (b:Int):Rt (bodV p b):=by
 unfold bodV
 split
 ·rename_i h
  exact (progB_body h.1 (by omega)).1
 ·exact rt_nil
theorem bodV_no {p:PD} {b:Int} (h:¬ (progB p=true∧0≤b∧b < p.bods.length)):bodV p b=[]:=by unfold bodV;rw [if_neg h]
theorem bodV_yes {p:PD} {b:Int} (h:progB p=true) (h0:0≤b) (h1:b < p.bods.length):bodV p b=p.bods.getD b.toNat []:=by unfold bodV;rw [if_pos ⟨h,h0,h1⟩]
theorem bods_at {w:World} {lo hi:Nat} {s':Option Addr} {l:List (List I5)} (h:BodsR w lo hi s' l) {i:Nat} (hi':i < l.length):∃ g off,s'=some ⟨g,off,none⟩∧g < hi∧BodR w lo hi g (off+i) (l.getD i []):=by
 rcases h with rfl | ⟨g,off,rfl,_,hg,hc⟩
 ·exact absurd hi' (Nat.not_lt_zero _)
 ·exact ⟨g,off,rfl,hg,hc i hi'⟩
end
section
set_option linter.unusedSimpArgs false
set_option linter.unusedVariables false
set_option maxRecDepth 100000
open Go.RowKit
end
section
set_option linter.unusedSimpArgs false
set_option linter.unusedVariables false
set_option maxRecDepth 100000
open Go.RowKit
def emX (cs ss:List Int) (x:I5) (fr:Int):List I5:=emitM cs ss x.o x.r x.a x.b x.n fr
def cdM (cs:List Int) (l:List I5):Nat→List I5
 | 0=>[]
 | k+1=>cdM cs l k++emX cs (stL l l.length) (l.getD k z5) (stV l k)
theorem cdM_len (cs:List Int) (l:List I5):∀ k,(cdM cs l k).length≤40 * k
 | 0=>by simp [cdM]
 | k+1=>by
  have h1:=cdM_len cs l k
  have h2:=emitM_len cs (stL l l.length) (l.getD k z5).o (l.getD k z5).r (l.getD k z5).a (l.getD k z5).b (l.getD k z5).n (stV l k)
  simp only [cdM,emX,List.length_append]
  omega
theorem sumC_bd:∀ l:List Int,(∀ c∈l,1≤c∧c≤4)→0≤sumC l∧sumC l≤8 * l.length
 | [],_=>by simp [sumC]
 | c::r,h=>by
  have h1:=sumC_bd r (fun x hx=>h x (List.mem_cons_of_mem _ hx))
  have h2:=h c (List.mem_cons_self ..)
  simp [sumC] at h1 ⊢
  omega
theorem caps_all {p:PD} (h:progB p=true):∀ c∈p.caps,1≤c∧c≤4:=fun c hc=>by
 obtain ⟨i,hi,e⟩:=List.getElem_of_mem hc
 have:=(progB_len h).2.2.2 i hi
 rw [List.getD_eq_getElem?_getD,List.getElem?_eq_getElem hi] at this
 simp at this
 rw [← e]
 exact this
theorem caps_R {p:PD} (h:progB p=true):capsR p.caps=true:=by
 unfold capsR
 rw [List.all_eq_true]
 intro c hc
 exact decide_eq_true (caps_all h c hc)
theorem base_ok {p:PD} (h:progB p=true) {n:Int} (h0:0≤n) (h1:n < p.caps.length):baseV p.caps n≠ -1:=by
 have a:=sumC_bd p.caps (caps_all h)
 have b:=sumC_bd (p.caps.take n.toNat) (fun c hc=>caps_all h c (List.mem_of_mem_take hc))
 have c:=(progB_len h).2.2.1
 unfold baseV
 rw [if_pos ⟨caps_R h,by omega,h0,h1⟩]
 omega
theorem right_ok {p:PD} (h:progB p=true):rightC p.caps=true:=by
 have a:=sumC_bd p.caps (caps_all h)
 have c:=(progB_len h).2.2.1
 unfold rightC
 rw [caps_R h,Bool.true_and]
 exact decide_eq_true (by omega)
theorem chanM_pos (o r a x rm b fr:Int):0 < (chanM o r a x rm b fr).length:=by
 unfold chanM
 repeat' split
 all_goals
  rw [togL_len]
  simp [lens,lockR,askR,faultR,openR,roundR,putR,letR,triedR,takenR,roundT,keepT,keepR,noneT,noneR,cameR]
theorem emitM_pos {cs ss:List Int} {o r a x n fr:Int} (h:Plain.insB o r a x n ss.length cs.length=true) (hb:∀ m:Int,0≤m→m < cs.length→baseV cs m≠ -1):0 < (emitM cs ss o r a x n fr).length:=by
 have h':=h
 simp only [Plain.insB,decide_eq_true_eq] at h'
 unfold emitM
 rw [if_pos h]
 repeat' split
 all_goals first | exact chanM_pos _ _ _ _ _ _ _ | (simp;done) | (exfalso;rename_i hz;exact hb n (by omega) (by omega) hz)
theorem em_pos {p:PD} (h:progB p=true) {b:Nat} (hb:b < p.bods.length) {k:Nat} (hk:k < (p.bods.getD b []).length) (fr:Int):0 < (emX p.caps (stL (p.bods.getD b []) (p.bods.getD b []).length) ((p.bods.getD b []).getD k z5) fr).length:=by
 have h1:bodyB (p.bods.getD b []) p.caps.length=true:=by
  simp only [progB,bodsB,Bool.and_eq_true,decide_eq_true_eq] at h
  exact h.2.1 b hb
 have h2:insX ((p.bods.getD b []).getD k z5) (p.bods.getD b []).length p.caps.length=true:=by
  simp only [bodyB,Bool.and_eq_true,decide_eq_true_eq] at h1
  exact h1.1 k hk
 unfold emX
 refine emitM_pos ?_ (fun m h0 h1=>base_ok h h0 h1)
 rw [stL_len]
 exact h2
theorem flat_fl:∀ l:List I5,(fl5 l).map (Value.int .i64)=flatP l
 | []=>rfl
 | x::r=>by simp [fl5,flatP,cellsP,flat_fl r]
end
section
set_option linter.unusedSimpArgs false
set_option linter.unusedVariables false
set_option maxRecDepth 100000
open Go.RowKit
end
section
set_option linter.unusedSimpArgs false
set_option linter.unusedVariables false
set_option maxRecDepth 100000
open Go.RowKit Go.Maps
theorem insR_at {w:World} {lo hi:Nat} {s:Option Addr} {l:List I5} (h:InsR w lo hi s l) {i:Nat} (hi':i < l.length):∃ g off,s=some ⟨g,off,none⟩∧lo≤g∧g < hi∧∀ j,j < l.length→At5 w g (off+j * 5) (l.getD j z5):=by
 rcases h with rfl | ⟨g,off,rfl,h1,h2,h3⟩
 ·exact absurd hi' (Nat.not_lt_zero _)
 ·exact ⟨g,off,rfl,h1,h2,h3⟩
end
section
set_option linter.unusedSimpArgs false
set_option linter.unusedVariables false
set_option maxRecDepth 100000
open Go.RowKit Go.Maps
end
section
set_option linter.unusedSimpArgs false
set_option linter.unusedVariables false
set_option maxRecDepth 100000
open Go.RowKit
end
section
set_option linter.unusedSimpArgs false
set_option linter.unusedVariables false
set_option maxRecDepth 100000
open Go.RowKit
def OwnP6 (w:World) (base:Nat) (v:Value) (b:List I5):Prop:=w.ownsRow base 98 5 v b.length (flatP b)
def OwnB6 (w:World) (base:Nat) (v:Value) (bs:List (List I5)):Prop:=
 ∃ xs:List Value,w.ownsRow base 99 1 v bs.length xs∧(∀ i,i < bs.length→OwnP6 w base (xs.getD i undef) (bs.getD i []))∧∀ i j k,i < bs.length→j < bs.length→i≠j→(xs.getD i undef).ownBlock=some k→(xs.getD j undef).ownBlock≠some k
theorem infoB6:∃ i,Try.prog.info? 99=some i∧i.zero=some (.slice none 0 0)∧i.size=1∧i.bytes=24:=⟨_,rfl,rfl,rfl,rfl⟩
theorem OwnB6.keep {w w':World} {base:Nat} {v:Value} {bs:List (List I5)} (h:OwnB6 w base v bs) (hb:∀ k,base≤k→k < w.heap.size→w'.heap[k]? =w.heap[k]?):OwnB6 w' base v bs:=by
 obtain ⟨xs,h1,h2,h3⟩:=h
 exact ⟨xs,ownKeep h1 (fun k hk=>hb k (World.ownsRow.lt h1 _ hk).1 (World.ownsRow.lt h1 _ hk).2),fun i hi=>ownKeep (h2 i hi) (fun k hk=>hb k (World.ownsRow.lt (h2 i hi) _ hk).1 (World.ownsRow.lt (h2 i hi) _ hk).2),h3⟩
theorem OwnB6.below {w w':World} {base:Nat} {v:Value} {bs:List (List I5)} (h:OwnB6 w base v bs) (hb:Below w.heap.size w w'):OwnB6 w' base v bs:=h.keep fun k _ hk=>hb.block k hk
theorem OwnB6.low {w:World} {b b':Nat} {v:Value} {bs:List (List I5)} (h:OwnB6 w b v bs) (hb:b'≤b):OwnB6 w b' v bs:=by
 obtain ⟨xs,h1,h2,h3⟩:=h
 exact ⟨xs,ownLow h1 hb,fun i hi=>ownLow (h2 i hi) hb,h3⟩
/- append of an empty row: what it makes of the rows -/
theorem OwnB6.grow {w w' : World} {base g cap : Nat} {v u : Value} {bs : List (List I5)} {xs : List Value} (h1 : w.ownsRow base 99 1 v bs.length xs) (h2 : ∀ i, i < bs.length → OwnP6 w base (xs.getD i undef) (bs.getD i []))
  (h3:∀ i j k,i < bs.length→j < bs.length→i≠j→(xs.getD i undef).ownBlock=some k→(xs.getD j undef).ownBlock≠some k) (hu:u.ownBlock=none∨∃ k,u.ownBlock=some k∧w.heap.size≤k)
  (q1:w'.ownsRow base 99 1 (.slice (some ⟨g,0,none⟩) (bs.length+1) cap) (bs.length+1) (xs++[u])) (hk:∀ k,base≤k→k < w.heap.size→v.ownBlock≠some k→w'.heap[k]? =w.heap[k]?) {b:List I5} (hP:OwnP6 w' base u b):
  OwnB6 w' base (.slice (some ⟨g,0,none⟩) (bs.length+1) cap) (bs++[b]):=by
 have hxl:xs.length=bs.length:=by have:=h1.1;omega
 refine ⟨xs++[u],by rw [List.length_append];exact q1,?_,?_⟩
 ·intro i hi
  rw [getD_snoc,getD_snoc,hxl]
  by_cases e:i < bs.length
  ·rw [if_pos e,if_pos e]
   exact ownKeep (h2 i e) (fun k hk'=>hk k (World.ownsRow.lt (h2 i e) _ hk').1 (World.ownsRow.lt (h2 i e) _ hk').2 (ownType (h2 i e) h1 (by decide) hk'))
  ·have:i=bs.length:=by simp at hi;omega
   rw [if_neg e,if_pos this,if_neg e,if_pos this]
   exact hP
 ·intro i j k hi hj hne
  simp only [List.length_append,List.length_cons,List.length_nil] at hi hj
  rw [getD_snoc,getD_snoc,hxl]
  by_cases e:i < bs.length<;>by_cases e':j < bs.length
  ·rw [if_pos e,if_pos e'];exact h3 i j k e e' hne
  ·rw [if_pos e,if_neg e',if_pos (by omega)]
   intro hk' hk''
   have:=(World.ownsRow.lt (h2 i e) _ hk').2
   rcases hu with hu | ⟨k',hu,hk2⟩
   ·rw [hu] at hk'';cases hk''
   ·rw [hu] at hk'';injection hk'' with hk'';omega
  ·rw [if_neg e,if_pos (by omega),if_pos e']
   intro hk' hk''
   have:=(World.ownsRow.lt (h2 j e') _ hk'').2
   rcases hu with hu | ⟨k',hu,hk2⟩
   ·rw [hu] at hk';cases hk'
   ·rw [hu] at hk';injection hk' with hk';omega
  ·omega
theorem OwnP6.ins {w:World} {base:Nat} {v:Value} {l:List I5} (h:OwnP6 w base v l):∃ s c,v=.slice s l.length c∧InsR w base w.heap.size s l:=by
 rcases Nat.eq_zero_or_pos l.length with h0 | hpos
 ·rcases h.2 with ⟨h1,h2⟩ | ⟨g,cap,cur,a,-⟩
  ·exact ⟨none,0,by rw [h1,h2],.inl (List.length_eq_zero_iff.1 h0)⟩
  ·exact ⟨_,_,a,.inl (List.length_eq_zero_iff.1 h0)⟩
 ·obtain ⟨g,cap,rfl,-⟩:=World.ownsRow.form h hpos
  have hlt:=World.ownsRow.lt h g rfl
  refine ⟨_,_,rfl,.inr ⟨g,0,rfl,hlt.1,hlt.2,fun i hi=>?_⟩⟩
  have hc:∀ j,j < 5→w.cell? ⟨g,i * 5+j,none⟩=(cellsP (l.getD i z5))[j]? :=fun j hj=>by
   rw [World.ownsRow.cellAt h (i * 5+j) (by omega)]
   exact flatP_at l i j hi hj
  rw [Nat.zero_add]
  exact ⟨hc 0 (by omega),hc 1 (by omega),hc 2 (by omega),hc 3 (by omega),hc 4 (by omega)⟩
theorem OwnB6.bods {w:World} {base:Nat} {v:Value} {l:List (List I5)} (h:OwnB6 w base v l):∃ s c,v=.slice s l.length c∧BodsR w base w.heap.size s l:=by
 obtain ⟨xs,h1,h2,-⟩:=h
 rcases Nat.eq_zero_or_pos l.length with h0 | hpos
 ·rcases h1.2 with ⟨h1,h2⟩ | ⟨g,cap,cur,a,-⟩
  ·exact ⟨none,0,by rw [h1,h2],.inl (List.length_eq_zero_iff.1 h0)⟩
  ·exact ⟨_,_,a,.inl (List.length_eq_zero_iff.1 h0)⟩
 ·obtain ⟨g,cap,rfl,-⟩:=World.ownsRow.form h1 hpos
  have hlt:=World.ownsRow.lt h1 g rfl
  have hxl:xs.length=l.length:=by have:=h1.1;omega
  refine ⟨_,_,rfl,.inr ⟨g,0,rfl,hlt.1,hlt.2,fun i hi=>?_⟩⟩
  obtain ⟨s,c,e,hi'⟩:=OwnP6.ins (h2 i hi)
  refine ⟨s,c,?_,hi'⟩
  rw [Nat.zero_add,World.ownsRow.cellAt h1 i (by omega),← e,List.getD_eq_getElem?_getD,List.getElem?_eq_getElem (by omega)]
  rfl
end
section
set_option linter.unusedSimpArgs false
set_option linter.unusedVariables false
set_option maxRecDepth 100000
open Go.RowKit
def cdAt (p:PD) (k:Nat):List I5:=cdM p.caps (p.bods.getD k []) (p.bods.getD k []).length
def cdL (p:PD) (n:Nat):List (List I5):=(List.range n).map (cdAt p)
theorem cdL_len (p:PD) (n:Nat):(cdL p n).length=n:=by simp [cdL]
theorem cdL_succ (p:PD) (n:Nat):cdL p (n+1)=cdL p n++[cdAt p n]:=by simp [cdL,List.range_succ]
theorem cdL_at (p:PD) {n i:Nat} (h:i < n):(cdL p n).getD i []=cdAt p i:=by simp [cdL,List.getD_eq_getElem?_getD,h]
def cpM (p:PD):List (List I5)×Bool:=if progB p=true∧∀ i,i < p.bods.length→codeB (cdAt p i)=true then (cdL p p.bods.length,true) else ([],false)
theorem cpM_yes {p:PD} (h:progB p=true) (h2:∀ i,i < p.bods.length→codeB (cdAt p i)=true):cpM p=(cdL p p.bods.length,true):=by unfold cpM;rw [if_pos ⟨h,h2⟩]
theorem cpM_no {p:PD} {k:Nat} (hk:k < p.bods.length) (h:codeB (cdAt p k)=false):cpM p=([],false):=by
 unfold cpM
 rw [if_neg (fun h2=>by rw [h2.2 k hk] at h;cases h)]
theorem cpM_none {p:PD} (h:progB p=false):cpM p=([],false):=by
 unfold cpM
 rw [if_neg (fun h2=>by rw [h2.1] at h;cases h)]
theorem own5_six {w:World} {base:Nat} {v:Value} {l:List I5} (h:OwnT5 w base v l):OwnP6 w base v l:=by
 show w.ownsRow base 98 5 v l.length (flatP l)
 rw [← flat_fl]
 exact h
theorem own_hu {w:World} {base:Nat} {e:TypeId} {size n:Nat} {v:Value} {xs:List Value} (h:w.ownsRow base e size v n xs):v.ownBlock=none∨∃ k,v.ownBlock=some k∧base≤k:=by
 rcases hob:v.ownBlock with _ | kk
 ·exact .inl rfl
 ·exact .inr ⟨kk,rfl,(World.ownsRow.lt h _ hob).1⟩
theorem ok_step {p:PD} {k:Nat} (h:∀ i,i < k→codeB (cdAt p i)=true) (h2:codeB (cdAt p k)=true):∀ i,i < k+1→codeB (cdAt p i)=true:=fun i hi=>by
 by_cases e:i=k
 ·subst e;exact h2
 ·exact h i (by omega)
theorem wp6 {o : Oper} {a : Act} {K : Act → World → Prop} {Q : Exit → Act → World → Prop} (s x : Operand) (ho : o.op = .call { callee := .builtin .append, args := #[s, x], argTypes := #[68, 68] })
  (w:World) (base:Nat) (v:Value) (xs:List Value) (n:Nat) (hs:a.eval s=v) (hown:w.ownsRow base 99 1 v n xs) (g0 c:Nat) (u:Value) (hu:u.oneCell'=true) (hx:a.eval x=.slice (some ⟨g0,0,none⟩) 1 c) (hc:w.cell? ⟨g0,0,none⟩=some u) (hn:n≤1000) (hbase:base≤w.heap.size)
  (h:∀ g cap w',w'.ownsRow base 99 1 (.slice (some ⟨g,0,none⟩) (n+1) cap) (n+1) (xs++[u])→w.grownBy w' v.ownBlock→(v.ownBlock=some g∨g=w.heap.size)→g < w'.heap.size→K (a.put o.dst (.slice (some ⟨g,0,none⟩) (n+1) cap)) w'):Oper.wp Try.prog o a w K Q:=by
 obtain ⟨i0,hi0,hz0,hz1,hz2⟩:=infoB6
 refine wp_append_lies w s x 68 ho base 99 i0 _ 1 24 Try.underlying68 hi0 hz0 hz1 hz2 rfl (by decide) v n xs hs hown ⟨g0,0,none⟩ 1 c [u] hx rfl (fun j y hj=>?_) (fun y hy=>by simp at hy;subst hy;exact hu) (by decide) (by unfold maxLen;omega) (by omega) hbase _ rfl h
 cases j with
 | zero=>simp at hj;subst hj;simpa [Addr.add] using hc
 | succ j=>simp at hj
theorem app6 {ops : Array Oper} {rest : List Oper} {o : Oper} {a : Act} {Q : Exit → Act → World → Prop} (hgd : o.guard = none) (s x : Operand) (ho : o.op = .call { callee := .builtin .append, args := #[s, x], argTypes := #[68, 68] })
  (w:World) (base:Nat) (v:Value) (xs:List Value) (n:Nat) (hs:a.eval s=v) (hown:w.ownsRow base 99 1 v n xs) (g0 c:Nat) (u:Value) (hu:u.oneCell'=true) (hx:a.eval x=.slice (some ⟨g0,0,none⟩) 1 c) (hc:w.cell? ⟨g0,0,none⟩=some u) (hn:n≤1000) (hbase:base≤w.heap.size)
  (h:∀ g cap w',w'.ownsRow base 99 1 (.slice (some ⟨g,0,none⟩) (n+1) cap) (n+1) (xs++[u])→w.grownBy w' v.ownBlock→(v.ownBlock=some g∨g=w.heap.size)→g < w'.heap.size→wpList Try.prog ops Q rest (a.put o.dst (.slice (some ⟨g,0,none⟩) (n+1) cap)) w'):wpList Try.prog ops Q (o::rest) a w:=
 wpList_plain hgd fun _ hK=>wp6 s x ho w base v xs n hs hown g0 c u hu hx hc hn hbase fun g cap w' h2 h3 h4 h5=>hK _ _ (h g cap w' h2 h3 h4 h5)
end
end Go.Proofs.Ytkhjhibigldcgaa
