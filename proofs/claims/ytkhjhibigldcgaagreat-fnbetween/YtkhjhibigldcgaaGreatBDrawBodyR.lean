/- A drawn body is right for its channels. Conditions: the cursor and its bytes lie in memory as the reading says; 1 to 3 channels. -/
import Derived.Test.YtkhjhibigldcgaaGreatBG00
import Derived.Test.YtkhjhibigldcgaaGreatBG10
import Derived.Test.YtkhjhibigldcgaaGreatBG01
import Derived.Test.YtkhjhibigldcgaaGreatBG14
import Derived.Test.YtkhjhibigldcgaaGreatBG13
import Derived.Test.YtkhjhibigldcgaaGreatBG03
import Derived.Test.YtkhjhibigldcgaaGreatBDrawInsR
import Derived.Test.YtkhjhibigldcgaaGreatBG12
import Derived.Test.YtkhjhibigldcgaaGreatBG15
import Derived.Deep.AppendLies
import Derived.Deep.Slices
import Derived.Laws.OwnMore
namespace Go.Proofs.YtkhjhibigldcgaaGreat
set_option linter.unusedSimpArgs false
set_option linter.unusedVariables false
set_option maxRecDepth 100000
open Go.RowKit Go.Deep
theorem But.grown {p:Nat} {w0 w w':World} {row:Option Nat} (h:But p w0 w) (hg:w.grownBy w' row) (hr:∀ k,row=some k→w0.heap.size≤k):But p w0 w':=
 ⟨hg.os.trans h.os,hg.tape.trans h.tape,hg.output.trans h.output,Nat.le_trans h.size hg.size,fun k hk hp=>(hg.block k (Nat.lt_of_lt_of_le hk h.size) (fun e=>by have:=hr k e.symm;omega)).trans (h.block k hk hp)⟩
theorem CBx158.grown {p n c:Nat} {w w':World} {s:Option Addr} {row:Option Nat} (h:CBx158 w p s n c) (hg:w.grownBy w' row) (hr:∀ k,row=some k→p < k):CBx158 w' p s n c:=by
 have hb:Below (p+1) w w':=⟨hg.os,hg.tape,hg.output,hg.size,fun k hk=>hg.block k (by have:=h.lt;omega) (fun e=>by have:=hr k e.symm;omega)⟩
 obtain ⟨⟨i,hh,c0,c1,c2,hf,hi,hi',hp⟩,h2,h3⟩:=h
 exact ⟨⟨i,hh,(hb.cell (p:=⟨p,0,none⟩) (by simp)).trans c0,(hb.cell (p:=⟨p,1,none⟩) (by simp)).trans c1,(hb.cell (p:=⟨p,2,none⟩) (by simp)).trans c2,fun j=>(hb.frozen (p:=⟨p,j,none⟩) (by simp)).trans (hf j),hi,hi',by have:=hg.size;omega⟩,h2.below hb (by omega),h3⟩
theorem bodyB_of {l:List I5} {ch:Int} (h:∀ i,i < l.length→insX (l.getD i z5) l.length ch=true) (h1:1≤l.length) (h2:l.length≤24) (c0:0≤ch) (c1:ch≤3) (hl:(l.getD (l.length - 1) z5).o=13∨(l.getD (l.length - 1) z5).o=11):bodyB l ch=true:=by
 unfold bodyB lastB Plain.chansB
 rw [Bool.and_eq_true,Bool.and_eq_true,Bool.and_eq_true]
 exact ⟨decide_eq_true h,decide_eq_true ⟨h1,h2⟩,decide_eq_true ⟨c0,c1⟩,decide_eq_true hl⟩
def lit0 (x:Int):List I5:=[⟨1,0,0,0,3⟩,⟨1,1,0,0,1⟩,⟨5,0,0,0,x⟩,⟨3,0,0,1,0⟩,⟨12,0,0,0,6⟩,⟨11,0,0,0,2⟩,⟨13,0,0,0,0⟩]
def lit1 (x:Int):List I5:=[⟨6,0,0,1,x⟩,⟨12,0,1,0,4⟩,⟨10,0,0,0,0⟩,⟨11,0,0,0,0⟩,⟨13,0,0,0,0⟩]
def lit2 (x y:Int):List I5:=[⟨6,0,0,1,x⟩,⟨2,0,0,1,0⟩,⟨5,0,0,0,y⟩,⟨10,0,0,0,0⟩,⟨11,0,0,0,0⟩]
def lit3 (x y:Int):List I5:=[⟨1,2,0,0,5⟩,⟨7,3,2,0,x⟩,⟨8,0,0,1,y⟩,⟨10,0,1,0,0⟩,⟨2,2,2,3,0⟩,⟨11,0,0,0,1⟩]
theorem lit0_ok {x ch:Int} (x0:0≤x) (x1:x < ch) (c1:ch≤3):bodyB (lit0 x) ch=true:=by
 refine bodyB_of (fun i hi=>?_) (by simp [lit0]) (by simp [lit0]) (by omega) c1 (.inl rfl)
 have hi:i < 7:=hi
 rcases (show i=0∨i=1∨i=2∨i=3∨i=4∨i=5∨i=6 by omega) with rfl | rfl | rfl | rfl | rfl | rfl | rfl
 all_goals
  show Plain.insB _ _ _ _ _ 7 ch=true
  simp [lit0,Plain.insB]
  omega
theorem lit1_ok {x ch:Int} (x0:0≤x) (x1:x < ch) (c1:ch≤3):bodyB (lit1 x) ch=true:=by
 refine bodyB_of (fun i hi=>?_) (by simp [lit1]) (by simp [lit1]) (by omega) c1 (.inl rfl)
 have hi:i < 5:=hi
 rcases (show i=0∨i=1∨i=2∨i=3∨i=4 by omega) with rfl | rfl | rfl | rfl | rfl
 all_goals
  show Plain.insB _ _ _ _ _ 5 ch=true
  simp [lit1,Plain.insB]
  omega
theorem lit2_ok {x y ch:Int} (x0:0≤x) (x1:x < ch) (y0:0≤y) (y1:y < ch) (c1:ch≤3):bodyB (lit2 x y) ch=true:=by
 refine bodyB_of (fun i hi=>?_) (by simp [lit2]) (by simp [lit2]) (by omega) c1 (.inr rfl)
 have hi:i < 5:=hi
 rcases (show i=0∨i=1∨i=2∨i=3∨i=4 by omega) with rfl | rfl | rfl | rfl | rfl
 all_goals
  show Plain.insB _ _ _ _ _ 5 ch=true
  simp [lit2,Plain.insB]
  omega
theorem lit3_ok {x y ch:Int} (x0:0≤x) (x1:x < ch) (y0:0≤y) (y1:y < ch) (c1:ch≤3):bodyB (lit3 x y) ch=true:=by
 refine bodyB_of (fun i hi=>?_) (by simp [lit3]) (by simp [lit3]) (by omega) c1 (.inr rfl)
 have hi:i < 6:=hi
 rcases (show i=0∨i=1∨i=2∨i=3∨i=4∨i=5 by omega) with rfl | rfl | rfl | rfl | rfl | rfl
 all_goals
  show Plain.insB _ _ _ _ _ 6 ch=true
  simp [lit3,Plain.insB]
  omega
/- places drawn one behind the other, then an end or a jump -/
theorem more_ok {l:List I5} {x:I5} {ch:Int} (h:∀ i,i < l.length→insX (l.getD i z5) ((l.length:Int)+1) ch=true) (hx:insX x ((l.length:Int)+1) ch=true) (h2:l.length≤23) (c0:0≤ch) (c1:ch≤3) (hl:x.o=13∨x.o=11):bodyB (l++[x]) ch=true:=by
 have e:((l++[x]).length:Int)=(l.length:Int)+1:=by simp
 have ex:(l++[x]).getD l.length z5=x:=by rw [List.getD_eq_getElem?_getD,List.getElem?_append_right (Nat.le_refl _)];simp
 refine bodyB_of (fun i hi=>?_) (by simp) (by simp;omega) c0 c1 (by rw [show (l++[x]).length - 1=l.length by simp,ex];exact hl)
 rw [e]
 by_cases hi2:i < l.length
 ·rw [List.getD_eq_getElem?_getD,List.getElem?_append_left hi2,← List.getD_eq_getElem?_getD]
  exact h i hi2
 ·have:i=l.length:=by simp at hi;omega
  rw [this,ex]
  exact hx
theorem rg13 {pl ch:Int} (c0:1≤ch) (c1:ch≤3):Plain.insB 13 0 0 0 0 pl ch=true:=by
 simp [Plain.insB]
 omega
theorem own_litP {w:World} {base:Nat} (l:List I5) (C:Array Value) (hb:base≤w.heap.size) (hn:l.length≤1000) (hC:C.toList=flatP l):OwnP (w.alloc (.cells C 71)) base (.slice (some ⟨w.heap.size,0,none⟩) l.length l.length) l:=by
 have h:=World.ownsRow_lit (base:=base) (e:=71) (size:=5) w C l.length hb (by unfold maxLen;omega) (by rw [← Array.length_toList,hC,flatP_len])
 unfold OwnP
 rw [← hC]
 exact h
theorem new5P (w:World) (x:I5):∀ j u,(cellsP x)[j]? =some u→(w.alloc (.cells #[.int .i64 x.o,.int .i64 x.r,.int .i64 x.a,.int .i64 x.b,.int .i64 x.n] 71)).cell? (Addr.add ⟨w.heap.size,0,none⟩ j)=some u:=by
 intro j u h
 match j,h with
 | 0,h=>simpa [Addr.add,go_sem,cellsP] using h
 | 1,h=>simpa [Addr.add,go_sem,cellsP] using h
 | 2,h=>simpa [Addr.add,go_sem,cellsP] using h
 | 3,h=>simpa [Addr.add,go_sem,cellsP] using h
 | 4,h=>simpa [Addr.add,go_sem,cellsP] using h
theorem app_stepP {ops : Array Oper} {rest : List Oper} {o : Oper} {a : Act} {Q : Exit → Act → World → Prop} (hgd : o.guard = none) (s x : Operand) (ho : o.op = .call { callee := .builtin .append, args := #[s, x], argTypes := #[53, 53] })
  (w:World) (y:I5) (base:Nat) (l:List I5) (v:Value) (hs:a.eval s=v) (hown:OwnP w base v l) (hx:a.eval x=.slice (some ⟨w.heap.size,0,none⟩) 1 1) (hn:l.length≤1000) (hbase:base≤w.heap.size)
  (h:∀ g cap w',OwnP w' base (.slice (some ⟨g,0,none⟩) (l.length+1) cap) (l++[y])→(w.alloc (.cells #[.int .i64 y.o,.int .i64 y.r,.int .i64 y.a,.int .i64 y.b,.int .i64 y.n] 71)).grownBy w' v.ownBlock→(∀ k,v.ownBlock=some k→base≤k)→wpList Tryz.prog ops Q rest (a.put o.dst (.slice (some ⟨g,0,none⟩) (l.length+1) cap)) w'):
  wpList Tryz.prog ops Q (o::rest) a (w.alloc (.cells #[.int .i64 y.o,.int .i64 y.r,.int .i64 y.a,.int .i64 y.b,.int .i64 y.n] 71)):=by
 obtain ⟨i0,hi,hz0,hz1,hz2⟩:=infoP
 have h1':=ownKeep (w':=w.alloc (.cells #[.int .i64 y.o,.int .i64 y.r,.int .i64 y.a,.int .i64 y.b,.int .i64 y.n] 71)) hown (fun k hk=>Below.heap_alloc _ _ _ (World.ownsRow.lt hown _ hk).2)
 refine wpList_append_lies _ hgd s x 53 ho base 71 i0 _ 5 40 Tryz.underlying53 hi hz0 hz1 hz2 rfl (by decide) v l.length _ hs h1' ⟨w.heap.size,0,none⟩ 1 1 (cellsP y) hx rfl (new5P w y) (fun u hu=>by simp [cellsP] at hu;rcases hu with rfl | rfl | rfl | rfl | rfl<;>rfl) (by decide) (by unfold maxLen;omega) (by omega) (by simp;omega) _ rfl ?_
 intro g cap w' q1 q2 q3 q4
 refine h g cap w' ?_ q2 (fun k hk=>(World.ownsRow.lt hown _ hk).1)
 show w'.ownsRow base 71 5 _ (l++[y]).length (flatP (l++[y]))
 rw [flatP_snoc,List.length_append]
 exact q1
set_option maxRecDepth 100000 in
set_option maxHeartbeats 4000000 in
theorem drawBody_ok (p : Nat) (s : Option Addr) (n c : Nat) (ch : Int) (w : World) (h : CBx158 w p s n c) (hc0 : 1 ≤ ch) (hc : ch ≤ 3) :
  Calls Tryz.prog 26 #[.pointer (some ⟨p,0,none⟩),.int .i64 ch] w fun e w'=>∃ (v:Value) (l:List I5),e=.returned v∧OwnP w' w.heap.size v l∧bodyB l ch=true∧l.length≤12∧CBx158 w' p s n c∧But p w w':=by
 have hp:=h.lt
 have H0:Hid (CBx158 w p s n c):=h
 clear h
 go_enter Tryz.func26,Tryz.ntmps26
 go_wp2_with fail
 refine (below_cb p s n c ch w H0.out (by omega) (by omega)).mono ?_
 rintro e w1 ⟨x,rfl,x0,x1,hc1,hb1⟩
 go_wp2_with fail
 refine (below_cb p s n c ch w1 hc1 (by omega) (by omega)).mono ?_
 rintro e w2 ⟨y,rfl,y0,y1,hc2,hb2⟩
 go_wp2_with fail
 refine (below_cb p s n c 5 w2 hc2 (by omega) (by omega)).mono ?_
 rintro e w3 ⟨t,rfl,t0,t1,hc3,hb3⟩
 have H3:Hid (CBx158 w3 p s n c):=hc3
 have B3:Hid (But p w w3):=(hb1.trans hb2).trans hb3
 have hz3:w.heap.size≤w3.heap.size:=B3.out.size
 clear hc1 hb1 hc2 hb2 hc3 hb3
 have ht:t=0∨t=1∨t=2∨t=3∨t=4:=by omega
 clear t0 t1
 rcases ht with rfl | rfl | rfl | rfl | rfl
 ·go_wp2
  go_ret
  exact ⟨_,lit0 x,rfl,own_litP (lit0 x) _ hz3 (by simp [lit0]) rfl,lit0_ok x0 x1 hc,by simp [lit0],H3.out.alloc _,B3.out.alloc _⟩
 ·go_wp2
  go_ret
  exact ⟨_,lit1 x,rfl,own_litP (lit1 x) _ hz3 (by simp [lit1]) rfl,lit1_ok x0 x1 hc,by simp [lit1],H3.out.alloc _,B3.out.alloc _⟩
 ·go_wp2
  go_ret
  exact ⟨_,lit2 x y,rfl,own_litP (lit2 x y) _ hz3 (by simp [lit2]) rfl,lit2_ok x0 x1 y0 y1 hc,by simp [lit2],H3.out.alloc _,B3.out.alloc _⟩
 ·go_wp2
  go_ret
  exact ⟨_,lit3 x y,rfl,own_litP (lit3 x y) _ hz3 (by simp [lit3]) rfl,lit3_ok x0 x1 y0 y1 hc,by simp [lit3],H3.out.alloc _,B3.out.alloc _⟩
 ·go_wp2_with fail
  refine (below_cb p s n c 9 w3 H3.out (by omega) (by omega)).mono ?_
  rintro e w4 ⟨q,rfl,q0,q1,hc4,hb4⟩
  have H4:Hid (CBx158 w4 p s n c):=hc4
  have B4:Hid (But p w w4):=B3.out.trans hb4
  have hz4:w.heap.size≤w4.heap.size:=B4.out.size
  clear hc4 hb4
  go_wp2
  go_loopw [8,9] (fun v i wr=>∃ l:List I5,(l.length:Int)≤2+q∧i=.int .i64 l.length∧OwnP wr w.heap.size v l∧(∀ i,i < l.length→insX (l.getD i z5) (2+q+1) ch=true)∧CBx158 wr p s n c∧But p w wr) (fun _ i _=>12 - (intOf i).toNat)
  case atStart=>exact ⟨[],by simp;omega,rfl,own_litP [] #[] hz4 (by decide) rfl,fun i hi=>absurd hi (Nat.not_lt_zero _),H4.out.alloc _,B4.out.alloc _⟩
  case round=>
   obtain ⟨l,hj,rfl,ho,hok,hcb,hbt⟩:=hrel
   have HO:Hid (OwnP wr w.heap.size u8 l):=ho
   have HC:Hid (CBx158 wr p s n c):=hcb
   have HT:Hid (But p w wr):=hbt
   have HOK:Hid (∀ i,i < l.length→insX (l.getD i z5) (2+q+1) ch=true):=hok
   clear ho hcb hbt hok
   have hzr:=HT.out.size
   by_cases hlt:(l.length:Int) < 2+q
   ·go_wp2_with fail
    refine (drawIns_ok p s n c (2+q+1) ch wr HC.out (by omega) (by omega) (by omega) (by omega)).mono ?_
    rintro e w5 ⟨o,r,a,b,m,rfl,hin,hc5,hb5⟩
    have HO5:Hid (OwnP w5 w.heap.size u8 l):=ownKeep HO.out (fun k hk=>hb5.block k (World.ownsRow.lt HO.out _ hk).2 (by have:=(World.ownsRow.lt HO.out _ hk).1;omega))
    have HC5:Hid (CBx158 w5 p s n c):=hc5
    have HT5:Hid (But p w w5):=HT.out.trans hb5
    have hz5:=HT5.out.size
    have HIN:Hid (insX ⟨o,r,a,b,m⟩ (2+q+1) ch=true):=hin
    clear hc5 hb5 HO HC HT hin
    go_wp2_with (at_builtin;refine app_stepP rfl _ _ rfl w5 ⟨o,r,a,b,m⟩ w.heap.size l u8 rfl HO5.out rfl (by omega) hz5 ?_;intro g cap w6 ho6 hg6 hr6)
    go_roundw
    case rel=>
     refine ⟨l++[⟨o,r,a,b,m⟩],by simp;omega,by simp<;>go_num,by simpa using ho6,fun i hi=>?_,(HC5.out.alloc _).grown hg6 (fun k hk=>by have:=hr6 k hk;omega),(HT5.out.alloc _).grown hg6 hr6⟩
     by_cases hi2:i < l.length
     ·rw [List.getD_eq_getElem?_getD,List.getElem?_append_left hi2,← List.getD_eq_getElem?_getD]
      exact HOK.out i hi2
     ·have:i=l.length:=by simp at hi;omega
      rw [this,List.getD_eq_getElem?_getD,List.getElem?_append_right (Nat.le_refl _)]
      simpa using HIN.out
    case measure=>simp [intOf];omega
   ·have hjq:(l.length:Int)=2+q:=by omega
    have KL:Hid (Below wr.heap.size wr (wr.alloc (.cells #[.int .i64 13,.int .i64 11] 3))):=(Below.refl _ _).alloc (Nat.le_refl _) _
    have HJ:Hid ((l.length:Int)=2+q):=hjq
    clear hjq
    go_wp2_with fail
    refine (pick_cb p s n c wr.heap.size 2 [13,11] _ (HC.out.keep KL.out) rfl (by simp) (by simp) (by simp) (by omega) (fun i hi=>by match i,hi with | 0,_=>simp [go_sem] | 1,_=>simp [go_sem])).mono ?_
    rintro e w5 ⟨z,rfl,hz,hc5,hb5⟩
    have HZ:Hid (z∈[(13:Int),11]):=hz
    have HO5:Hid (OwnP w5 w.heap.size u8 l):=ownKeep (ownKeep HO.out (fun k hk=>KL.out.block k (World.ownsRow.lt HO.out _ hk).2)) (fun k hk=>hb5.block k (by have:=(World.ownsRow.lt HO.out _ hk).2;have:=KL.out.size;omega) (by have:=(World.ownsRow.lt HO.out _ hk).1;omega))
    have HC5:Hid (CBx158 w5 p s n c):=hc5
    have HT5:Hid (But p w w5):=(HT.out.trans (But.of_below KL.out)).trans hb5
    have hz5:=HT5.out.size
    clear hc5 hb5 HO HC HT KL hz
    go_wp2_with (at_builtin;refine app_stepP rfl _ _ rfl w5 ⟨z,0,0,0,0⟩ w.heap.size l u8 rfl HO5.out rfl (by omega) hz5 ?_;intro g cap w6 ho6 hg6 hr6)
    go_ret
    have hj2:=HJ.out
    have hok:=HOK.out
    rw [← hj2] at hok
    have hzz:z=13∨z=11:=by simpa using HZ.out
    have hlast:insX (⟨z,0,0,0,0⟩:I5) ((l.length:Int)+1) ch=true:=by
     rcases hzz with rfl | rfl
     ·exact rg13 hc0 hc
     ·show Plain.insB 11 0 0 0 0 ((l.length:Int)+1) ch=true
      exact rg11 hc0 hc (Int.le_refl 0) (by omega)
    have hb9:bodyB (l++[(⟨z,0,0,0,0⟩:I5)]) ch=true:=more_ok hok hlast (by omega) (by omega) hc hzz
    have ho9:OwnP w6 w.heap.size (.slice (some ⟨g,0,none⟩) (l.length+1) cap) (l++[(⟨z,0,0,0,0⟩:I5)]):=ho6
    have hl9:(l++[(⟨z,0,0,0,0⟩:I5)]).length≤12:=by simp;omega
    exact ⟨_,rfl,_,ho9,hb9,hl9,(HC5.out.alloc _).grown hg6 (fun k hk=>by have:=hr6 k hk;omega),(HT5.out.alloc _).grown hg6 hr6⟩
end Go.Proofs.YtkhjhibigldcgaaGreat
