/- l7Spoil: a step is drawn and perhaps spoiled. Conditions: the cursor and its bytes lie in memory as the reading says; 1 to 256 places. Rows of steps that a draw makes and grows: as long as every cell is a number they read as a list of steps. No condition. A drawn code is right, and its steps are known. Conditions: the cursor and its bytes lie in memory as the reading says. Drawn picks: a row of its own, of few. Conditions: the cursor and its bytes lie in memory as the reading says; at most 20 rounds. -/
import Derived.Test.YtlbeploopclegaaGreatQG00
import Derived.Test.YtlbeploopclegaaGreatQG20
import Derived.Test.YtlbeploopclegaaGreatQG04
import Derived.Test.YtlbeploopclegaaGreatQG10
import Derived.Test.YtlbeploopclegaaGreatQG01
import Derived.Deep.AppendLies
import Derived.Deep.Slices
import Derived.Laws.OwnMore
import Derived.Test.YtlbeploopclegaaGreatQG03
import Derived.Test.YtlbeploopclegaaGreatQDrawStepR
import Derived.Test.YtlbeploopclegaaGreatQG07
import Derived.Test.YtlbeploopclegaaGreatQG02
import Derived.Test.YtlbeploopclegaaGreatQG19
import Derived.Test.YtlbeploopclegaaGreatQKOkB
import Derived.Test.YtlbeploopclegaaGreatQG13
namespace Go.Proofs.YtlbeploopclegaaGreat
section
set_option linter.unusedSimpArgs false
set_option linter.unusedVariables false
set_option maxRecDepth 100000
open Go.RowKit
end
section
set_option linter.unusedSimpArgs false
set_option linter.unusedVariables false
set_option maxRecDepth 100000
open Go.RowKit Go.Deep
theorem But.grown {p:Nat} {w0 w w':World} {row:Option Nat} (h:But p w0 w) (hg:w.grownBy w' row) (hr:∀ k,row=some k→w0.heap.size≤k):But p w0 w':=
 ⟨hg.os.trans h.os,hg.tape.trans h.tape,hg.output.trans h.output,Nat.le_trans h.size hg.size,fun k hk hp=>(hg.block k (Nat.lt_of_lt_of_le hk h.size) (fun e=>by have:=hr k e.symm;omega)).trans (h.block k hk hp)⟩
theorem CB.grown {p n c:Nat} {w w':World} {s:Option Addr} {row:Option Nat} (h:CB w p s n c) (hg:w.grownBy w' row) (hr:∀ k,row=some k→p < k):CB w' p s n c:=by
 have hb:Below (p+1) w w':=⟨hg.os,hg.tape,hg.output,hg.size,fun k hk=>hg.block k (by have:=h.lt;omega) (fun e=>by have:=hr k e.symm;omega)⟩
 obtain ⟨⟨i,hh,c0,c1,c2,hf,hi,hi',hp⟩,h2,h3⟩:=h
 exact ⟨⟨i,hh,(hb.cell (p:=⟨p,0,none⟩) (by simp)).trans c0,(hb.cell (p:=⟨p,1,none⟩) (by simp)).trans c1,(hb.cell (p:=⟨p,2,none⟩) (by simp)).trans c2,fun j=>(hb.frozen (p:=⟨p,j,none⟩) (by simp)).trans (hf j),hi,hi',by have:=hg.size;omega⟩,h2.below hb (by omega),h3⟩
end
section
set_option linter.unusedSimpArgs false
set_option linter.unusedVariables false
set_option maxRecDepth 100000
open Go.RowKit
theorem fl5_app:∀ a b:List I5,fl5 (a++b)=fl5 a++fl5 b
 | [],b=>rfl
 | x::r,b=>by simp [fl5,fl5_app r b]
theorem app_step5 {ops : Array Oper} {rest : List Oper} {o : Oper} {a : Act} {Q : Exit → Act → World → Prop} (hgd : o.guard = none) (s x : Operand) (ho : o.op = .call { callee := .builtin .append, args := #[s, x], argTypes := #[102, 102] })
  (w:World) (y:I5) (base:Nat) (v:Value) (l:List I5) (hs:a.eval s=v) (hown:OwnT5 w base v l) (hx:a.eval x=.slice (some ⟨w.heap.size,0,none⟩) 1 1) (hn:l.length≤1000) (hbase:base≤w.heap.size)
  (h:∀ g cap w',OwnT5 w' base (.slice (some ⟨g,0,none⟩) (l.length+1) cap) (l++[y])→(w.alloc (.cells #[.int .i64 y.o,.int .i64 y.r,.int .i64 y.a,.int .i64 y.b,.int .i64 y.n] 141)).grownBy w' v.ownBlock→(∀ k,v.ownBlock=some k→base≤k)→wpList Tryz.prog ops Q rest (a.put o.dst (.slice (some ⟨g,0,none⟩) (l.length+1) cap)) w'):
  wpList Tryz.prog ops Q (o::rest) a (w.alloc (.cells #[.int .i64 y.o,.int .i64 y.r,.int .i64 y.a,.int .i64 y.b,.int .i64 y.n] 141)):=by
 obtain ⟨i0,hi,hz0,hz1,hz2⟩:=infoSt
 have h1':=ownKeep' (w':=w.alloc (.cells #[.int .i64 y.o,.int .i64 y.r,.int .i64 y.a,.int .i64 y.b,.int .i64 y.n] 141)) hown (fun k hk=>Below.heap_alloc _ _ _ (World.ownsRow.lt hown _ hk).2)
 refine wpList_append_lies _ hgd s x 102 ho base 141 i0 _ 5 40 Tryz.underlying102 hi hz0 hz1 hz2 rfl (by decide) v l.length _ hs h1' ⟨w.heap.size,0,none⟩ 1 1 [.int .i64 y.o,.int .i64 y.r,.int .i64 y.a,.int .i64 y.b,.int .i64 y.n] hx rfl (fun j u hj=>?_) (fun u hu=>by simp at hu;rcases hu with rfl | rfl | rfl | rfl | rfl<;>rfl) (by decide) (by unfold maxLen;omega) (by omega) (by simp;omega) _ rfl ?_
 ·match j,hj with
  | 0,hj=>simpa [Addr.add,go_sem] using hj
  | 1,hj=>simpa [Addr.add,go_sem] using hj
  | 2,hj=>simpa [Addr.add,go_sem] using hj
  | 3,hj=>simpa [Addr.add,go_sem] using hj
  | 4,hj=>simpa [Addr.add,go_sem] using hj
  | j+5,hj=>simp at hj
 intro g cap w' q1 q2 q3 q4
 refine h g cap w' ?_ q2 (fun k hk=>(World.ownsRow.lt h1' _ hk).1)
 show w'.ownsRow base 141 5 _ (l++[y]).length ((fl5 (l++[y])).map (Value.int .i64))
 rw [fl5_app,List.map_append,List.length_append]
 exact q1
theorem OwnT5.but {w w':World} {base p:Nat} {v:Value} {l:List I5} (h:OwnT5 w base v l) (hb:But p w w') (hp:p < base):OwnT5 w' base v l:=
 ownKeep' h (fun k hk=>by have:=World.ownsRow.lt h _ hk;exact hb.block k this.2 (by omega))
theorem OwnT5.below {w w':World} {base:Nat} {v:Value} {l:List I5} (h:OwnT5 w base v l) (hb:Below w.heap.size w w'):OwnT5 w' base v l:=
 ownKeep' h (fun k hk=>hb.block k (World.ownsRow.lt h _ hk).2)
theorem code_make {l:List I5} {y:I5} {q:Int} (hl:(l.length:Int)=1+q) (q0:0≤q) (q1:q < 14) (h:∀ x∈l,stX x (2+q)=true) (hy:stX y (2+q)=true) (he:Plain.endB y.o=true):codeB (l++[y])=true:=by
 have e1:(l++[y]).length=l.length+1:=by simp
 have e2:(((l++[y]).length:Nat):Int)=2+q:=by rw [e1];omega
 unfold codeB
 rw [decide_eq_true,decide_eq_true]
 ·unfold lastB
  rw [e1,List.getD_eq_getElem?_getD]
  simp [he]
 ·rw [e1];omega
 ·intro i hi
  rw [e2,List.getD_eq_getElem?_getD]
  have hm:(l++[y])[i]? =some ((l++[y])[i]):=List.getElem?_eq_getElem hi
  rw [hm]
  show stX ((l++[y])[i]) (2+q)=true
  have hin:(l++[y])[i]∈l++[y]:=List.getElem_mem hi
  rcases List.mem_append.1 hin with e | e
  ·exact h _ e
  ·simp only [List.mem_singleton] at e
   rw [e]
   exact hy
set_option maxRecDepth 100000 in
set_option maxHeartbeats 4000000 in
theorem drawCode_ok (p : Nat) (s : Option Addr) (n c : Nat) (w : World) (h : CB w p s n c) :
  Calls Tryz.prog 106 #[.pointer (some ⟨p,0,none⟩)] w fun e w'=>∃ (v:Value) (l:List I5),e=.returned v∧OwnT5 w' w.heap.size v l∧codeB l=true∧l.length≤15∧CB w' p s n c∧But p w w':=by
 have hp:=h.lt
 have H0:Hid (CB w p s n c):=h
 clear h
 go_enter Tryz.func106,Tryz.ntmps106
 go_wp2_with fail
 refine (below_cb p s n c 14 w H0.out (by omega) (by omega)).mono ?_
 rintro e w4 ⟨q,rfl,q0,q1,hc4,hb4⟩
 have H4:Hid (CB w4 p s n c):=hc4
 have B4:Hid (But p w w4):=hb4
 have hz4:w.heap.size≤w4.heap.size:=B4.out.size
 clear hc4 hb4
 have Q:Hid (0≤q∧q < 14):=⟨q0,q1⟩
 go_wp2
 go_loopw [4,5] (fun v i wr=>∃ (j:Nat) (l:List I5),(j:Int)≤1+q∧i=.int .i64 j∧l.length=j∧(∀ x∈l,stX x (2+q)=true)∧OwnT5 wr w.heap.size v l∧CB wr p s n c∧But p w wr) (fun _ i _=>15 - (intOf i).toNat)
 case atStart=>exact ⟨0,[],by omega,rfl,rfl,fun x hx=>by simp at hx,(by have h0:=World.ownsRow_lit (base:=w.heap.size) (e:=141) (size:=5) w4 #[] 0 hz4 (by unfold maxLen;omega) rfl;exact h0),H4.out.alloc _,B4.out.alloc _⟩
 case round=>
  obtain ⟨j,l,hj,rfl,hl,hx,ho,hcb,hbt⟩:=hrel
  have HO:Hid (OwnT5 wr w.heap.size u4 l):=ho
  have HX:Hid (∀ x∈l,stX x (2+q)=true):=hx
  have HL:Hid (l.length=j):=hl
  have HC:Hid (CB wr p s n c):=hcb
  have HT:Hid (But p w wr):=hbt
  clear ho hcb hbt hl hx
  have hzr:=HT.out.size
  by_cases hlt:(j:Int) < 1+q
  ·go_wp2_with fail
   refine (drawStep_ok p s n c (2+q) wr HC.out (by omega) (by omega)).mono ?_
   rintro e w5 ⟨o,r,a,b,m,rfl,hok,hc5,hb5⟩
   have HO5:Hid (OwnT5 w5 w.heap.size u4 l):=HO.out.but hb5 hp
   have HC5:Hid (CB w5 p s n c):=hc5
   have HT5:Hid (But p w w5):=HT.out.trans hb5
   have OK:Hid (Plain.stepB o r a b m (2+q)=true):=hok
   have hz5:=HT5.out.size
   clear hc5 hb5 HO HC HT hok
   go_wp2_with (at_builtin;refine app_step5 rfl _ _ rfl w5 ⟨o,r,a,b,m⟩ w.heap.size u4 l rfl HO5.out rfl (by have:=HL.out;omega) hz5 ?_;intro g cap w6 ho6 hg6 hr6)
   go_roundw
   case rel=>
    refine ⟨j+1,l++[⟨o,r,a,b,m⟩],by omega,by go_num,by rw [List.length_append,HL.out];rfl,fun x hx=>?_,ho6,(HC5.out.alloc _).grown hg6 (fun k hk=>by have:=hr6 k hk;omega),(HT5.out.alloc _).grown hg6 hr6⟩
    rcases List.mem_append.1 hx with e | e
    ·exact HX.out x e
    ·simp at e;subst e;exact OK.out
   case measure=>simp [intOf];omega
  ·have hjq:(j:Int)=1+q:=by omega
   have kl:Below wr.heap.size wr (wr.alloc (.cells #[.int .i64 12,.int .i64 10] 3)):=(Below.refl _ _).alloc (Nat.le_refl _) _
   have KL:Hid (Below wr.heap.size wr (wr.alloc (.cells #[.int .i64 12,.int .i64 10] 3))):=kl
   have HJ:Hid ((j:Int)=1+q):=hjq
   clear kl hjq
   go_wp2_with fail
   refine (pick_cb p s n c wr.heap.size 2 [12,10] _ (HC.out.keep KL.out) rfl (by simp) (by simp) (by simp) (by omega) (fun i hi=>by match i,hi with | 0,_=>simp [go_sem] | 1,_=>simp [go_sem])).mono ?_
   rintro e w5 ⟨z,rfl,hzm,hc5,hb5⟩
   have HO5:Hid (OwnT5 w5 w.heap.size u4 l):=(HO.out.below KL.out).but hb5 hp
   have HC5:Hid (CB w5 p s n c):=hc5
   have HT5:Hid (But p w w5):=(HT.out.trans (But.of_below KL.out)).trans hb5
   have ZZ:Hid (z=12∨z=10):=by simp at hzm;exact hzm
   have hz5:=HT5.out.size
   clear hc5 hb5 HO HC HT KL hzm
   go_wp2_with (at_builtin;refine app_step5 rfl _ _ rfl w5 ⟨z,0,0,0,0⟩ w.heap.size u4 l rfl HO5.out rfl (by have:=HL.out;omega) hz5 ?_;intro g cap w6 ho6 hg6 hr6)
   go_ret
   refine ⟨.slice (some ⟨g,0,none⟩) (l.length+1) cap,rfl,l++[⟨z,0,0,0,0⟩],ho6,code_make (q:=q) (by have:=HL.out;have:=HJ.out;omega) Q.out.1 Q.out.2 HX.out ?_ ?_,by rw [List.length_append,HL.out];have:=HJ.out;have:=Q.out;simp;omega,(HC5.out.alloc _).grown hg6 (fun k hk=>by have:=hr6 k hk;omega),(HT5.out.alloc _).grown hg6 hr6⟩
   ·show Plain.stepB z 0 0 0 0 (2+q)=true
    exact st7 (by have:=ZZ.out;have:=Q.out;omega)
   ·show Plain.endB z=true
    unfold Plain.endB
    rw [decide_eq_true_eq]
    have:=ZZ.out
    omega
end
section
set_option linter.unusedSimpArgs false
set_option linter.unusedVariables false
set_option maxRecDepth 100000
open Go.RowKit
theorem rnM_sz:∀ (l:List ND) {d:MD},machB d=true→(rnM d l).mem.length+szR (rnM d l).mem≤d.mem.length+szR d.mem+25 * l.length
 | [],_,_=>by simp [rnM]
 | x::r,d,h=>by
  have h1:=(stepM_sz x.who x.v h).2
  have h2:=rnM_sz r (stepM_ok x.who x.v h)
  have e:rnM d (x::r)=rnM (stepM d x.who x.v).1 r:=rfl
  rw [e,List.length_cons]
  omega
theorem rnM_cds:∀ (l:List ND) {d:MD},machB d=true→(rnM d l).codes=d.codes
 | [],_,_=>rfl
 | x::r,d,h=>(rnM_cds r (stepM_ok x.who x.v h)).trans (stepM_sz x.who x.v h).1
theorem max_at (a:Int) (w:World):Calls Tryz.prog 130 #[.int .i64 a,.int .i64 1] w fun e w'=>e=.returned (.int .i64 (if a < 1 then 1 else a))∧w'=w:=by
 by_cases h:a < 1
 ·have h1:¬ 1 < a:=by omega
  rw [if_pos h]
  go_enter Tryz.func130,Tryz.ntmps130
  go_wp2
  go_ret
  exact ⟨rfl,rfl⟩
 ·by_cases h2:a=1
  ·subst h2
   rw [if_neg h]
   go_enter Tryz.func130,Tryz.ntmps130
   go_wp2
   go_ret
   exact ⟨rfl,rfl⟩
  have h1:1 < a:=by omega
  rw [if_neg h]
  go_enter Tryz.func130,Tryz.ntmps130
  go_wp2
  go_ret
  exact ⟨rfl,rfl⟩
structure PkD (w wr:World) (p:Nat) (s:Option Addr) (n c:Nat) (m:Nat) (v:Value) (l:List ND):Prop where
 o:OwnPk wr w.heap.size v l
 le:l.length≤m
 v3:∀ x∈l,0≤x.v∧x.v≤3
 cb:CB wr p s n c
 bt:But p w wr
theorem PkD.but {w wr w':World} {p n c m:Nat} {s:Option Addr} {v:Value} {l:List ND} (h:PkD w wr p s n c m v l) (hp:p < w.heap.size) (hc:CB w' p s n c) (hb:But p wr w'):PkD w w' p s n c m v l:=
 ⟨ownKeep' h.o (fun k hk=>by have:=World.ownsRow.lt h.o _ hk;exact hb.block k this.2 (by omega)),h.le,h.v3,hc,h.bt.trans hb⟩
theorem PkD.add {w wr w':World} {p n c m g cap:Nat} {s:Option Addr} {v:Value} {l:List ND} {who x:Int} (h:PkD w wr p s n c m v l) (hp:p < w.heap.size) (x0:0≤x) (x1:x < 4) (ho:w'.ownsRow w.heap.size 121 2 (.slice (some ⟨g,0,none⟩) (l.length+1) cap) (l.length+1) (flatN l++[.int .i64 who,.int .i64 x])) (hg:(wr.alloc (.cells #[.int .i64 who,.int .i64 x] 121)).grownBy w' v.ownBlock):PkD w w' p s n c (m+1) (.slice (some ⟨g,0,none⟩) (l.length+1) cap) (l++[⟨who,x⟩]):=by
 have hr:∀ k,v.ownBlock=some k→w.heap.size≤k:=fun k hk=>(World.ownsRow.lt h.o _ hk).1
 refine ⟨?_,by have:=h.le;simp;omega,fun y hy=>?_,(h.cb.alloc _).grown hg (fun k hk=>by have:=hr k hk;omega),(h.bt.alloc _).grown hg hr⟩
 ·unfold OwnPk
  rw [flatN_app,List.length_append]
  exact ho
 ·rcases List.mem_append.1 hy with e | e
  ·exact h.v3 y e
  ·simp at e;subst e;exact ⟨x0,by show x≤3;omega⟩
theorem PkD.wide {w wr:World} {p n c m m':Nat} {s:Option Addr} {v:Value} {l:List ND} (h:PkD w wr p s n c m v l) (e:m≤m'):PkD w wr p s n c m' v l:=⟨h.o,Nat.le_trans h.le e,h.v3,h.cb,h.bt⟩
set_option maxRecDepth 100000 in
set_option maxHeartbeats 4000000 in
theorem drawPicks_ok (p : Nat) (s : Option Addr) (n c : Nat) (k : Nat) (most : Int) (w : World) (h : CB w p s n c) (hk : k ≤ 200) (hm0 : 0 ≤ most) (hm : most ≤ 20) :
  Calls Tryz.prog 109 #[.pointer (some ⟨p,0,none⟩),.int .i64 k,.int .i64 most] w fun e w'=>∃ (v:Value) (l:List ND),e=.returned v∧PkD w w' p s n c 120 v l:=by
 have hp:=h.lt
 have H0:Hid (CB w p s n c):=h
 clear h
 go_enter Tryz.func109,Tryz.ntmps109
 go_wp2_with fail
 refine (below_cb p s n c (most+1) _ (H0.out.alloc _) (by omega) (by omega)).mono ?_
 rintro e w4 ⟨q,rfl,q0,q1,hc4,hb4⟩
 have Q:Hid (0≤q∧q≤20):=by show _∧_;omega
 have P0:Hid (PkD w w4 p s n c 0 (.slice (some ⟨w.heap.size,0,none⟩) 0 0) []):=by
  refine ⟨?_,by simp,fun x hx=>by simp at hx,hc4,((But.refl _ _).alloc _).trans hb4⟩
  have h0:=World.ownsRow_lit (base:=w.heap.size) (e:=121) (size:=2) w #[] 0 (Nat.le_refl _) (by unfold maxLen;omega) rfl
  exact ownKeep' h0 (fun k hk=>by have:=World.ownsRow.lt h0 _ hk;exact hb4.block k this.2 (by omega))
 clear hc4 hb4 q0 q1
 go_wp2_with fail
 go_loopw [7,9] (fun v i wr=>∃ (j:Nat) (l:List ND),(j:Int)≤q∧i=.int .i64 j∧PkD w wr p s n c (j * 6) v l) (fun _ i _=>20 - (intOf i).toNat)
 case atStart=>exact ⟨0,[],by have:=Q.out;omega,rfl,P0.out⟩
 case round=>
  obtain ⟨j,l,hj,rfl,hd⟩:=hrel
  have D:=hidM1 hd
  clear hd
  have hzr:=D.out.bt.size
  by_cases hlt:(j:Int) < q
  ·have hj20:(j:Int) < 20:=by have:=Q.out;omega
   go_wp2_with fail
   refine (max_at (k:Int) wr).mono ?_
   rintro e w5 ⟨rfl,hw⟩
   have hw':=hw.symm
   clear hw
   subst hw'
   have g0:0 < (if (k:Int) < 1 then (1:Int) else k):=by split<;>omega
   have g1:(if (k:Int) < 1 then (1:Int) else k)≤256:=by split<;>omega
   generalize (if (k:Int) < 1 then (1:Int) else k)=cc at g0 g1 ⊢
   go_wp2_with fail
   refine (below_cb p s n c cc wr D.out.cb g0 g1).mono ?_
   rintro e w5 ⟨who,rfl,-,-,hc5,hb5⟩
   have D5:=hidM1 (D.out.but hp hc5 hb5)
   clear hc5 hb5 D g0 g1
   go_wp2_with fail
   go_loopw [7,11] (fun v i wr=>∃ (k:Nat) (l:List ND),k≤6∧i=.int .i64 k∧PkD w wr p s n c (j * 6+k) v l) (fun _ i _=>6 - (intOf i).toNat)
   case atStart=>exact ⟨0,l,by omega,rfl,D5.out⟩
   case round=>
    obtain ⟨k2,l2,hk2,rfl,hd⟩:=hrel
    have D:=hidM1 hd
    clear hd D5
    have hzr2:=D.out.bt.size
    go_wp2_with fail
    refine (below_cb p s n c 6 wr D.out.cb (by omega) (by omega)).mono ?_
    rintro e w6 ⟨x,rfl,x0,x1,hc6,hb6⟩
    have D6:=hidM1 (D.out.but hp hc6 hb6)
    have hzr3:=D6.out.bt.size
    clear hc6 hb6 D
    by_cases hl2:(k2:Int) < 1+x
    ·have hk3:k2 < 6:=by omega
     go_wp2_with fail
     refine (below_cb p s n c 4 w6 D6.out.cb (by omega) (by omega)).mono ?_
     rintro e w7 ⟨y,rfl,y0,y1,hc7,hb7⟩
     have D7:=hidM1 (D6.out.but hp hc7 hb7)
     have hzr4:=D7.out.bt.size
     have O7:Hid (OwnPk (w7.alloc (.cells #[.int .i64 who,.int .i64 y] 121)) w.heap.size u7 l2):=ownKeep' D7.out.o (fun q hq=>Below.heap_alloc w7 _ _ (World.ownsRow.lt D7.out.o _ hq).2)
     clear hc7 hb7 D6
     go_wp2_with (at_builtin;refine app_pick rfl _ _ rfl (w7.alloc (.cells #[.int .i64 who,.int .i64 y] 121)) w.heap.size u7 l2.length (flatN l2) rfl O7.out w7.heap.size (.int .i64 who) (.int .i64 y) rfl rfl rfl (by simp [go_sem]) (by simp [go_sem]) (by have:=D7.out.le;have:=Q.out;omega) (by simp;omega) ?_;intro g5 cap5 w8 ho8 hb8 hf8 hl8;have D8:=hidM1 (D7.out.add hp y0 y1 ho8 hb8);clear ho8 hb8 hf8)
     go_roundw
     case rel=>exact ⟨k2+1,l2++[⟨who,y⟩],by omega,by go_num,D8.out⟩
     case measure=>simp [intOf];omega
    ·go_wp2_with fail
     go_roundw
     case rel=>exact ⟨j+1,l2,by omega,by go_num,D6.out.wide (by omega)⟩
     case measure=>simp [intOf];have:=Q.out;omega
  ·go_wp2
   go_ret
   exact ⟨_,rfl,l,D.out.wide (by have:=Q.out;omega)⟩
end
end Go.Proofs.YtlbeploopclegaaGreat
