/- What a channel's cells tell, as a ring: ringIn of the program. Conditions: the memory is right. -/
import Derived.Test.YtkhjhibigldcgaaLG00
import Derived.Test.YtkhjhibigldcgaaLG02
import Derived.Test.YtkhjhibigldcgaaLG01
import Derived.Test.YtkhjhibigldcgaaLG03
import Derived.Deep.RegionHeld3
import Derived.Deep.DeepCutAuto
namespace Go.Proofs.Ytkhjhibigldcgaa
set_option linter.unusedSimpArgs false
set_option linter.unusedVariables false
set_option maxRecDepth 100000
open Go.RowKit
/- a ring in a variable's box -/
structure R7 (w:World) (g:Nat) (x:Nat→Int) (r f n:Int):Prop where
 lt:g < w.heap.size
 c:∀ i,i < 4→w.cell? ⟨g,i,none⟩=some (.int .i64 (x i))
 c4:w.cell? ⟨g,4,none⟩=some (.int .i64 r)
 c5:w.cell? ⟨g,5,none⟩=some (.int .i64 f)
 c6:w.cell? ⟨g,6,none⟩=some (.int .i64 n)
 fz:∀ j,w.frozen? ⟨g,j,none⟩=false
theorem R7.keep {w w':World} {g:Nat} {x:Nat→Int} {r f n:Int} (h:R7 w g x r f n) (hb:w'.heap[g]? =w.heap[g]?) (hs:w.heap.size≤w'.heap.size):R7 w' g x r f n:=
 ⟨Nat.lt_of_lt_of_le h.lt hs,fun i hi=>(World.cell?_of_block (w:=w) hb).trans (h.c i hi),(World.cell?_of_block (w:=w) hb).trans h.c4,(World.cell?_of_block (w:=w) hb).trans h.c5,(World.cell?_of_block (w:=w) hb).trans h.c6,fun j=>(World.frozen?_of_block (w:=w) hb).trans (h.fz j)⟩
theorem R7.below {w w':World} {B g:Nat} {x:Nat→Int} {r f n:Int} (h:R7 w g x r f n) (hb:Below B w w') (hB:g < B):R7 w' g x r f n:=h.keep (hb.block g hB) hb.size
theorem cOff {w:World} {g i j:Nat} {v:Value} (h:i≠j):(w.setCell ⟨g,i,none⟩ v).cell? ⟨g,j,none⟩=w.cell? ⟨g,j,none⟩:=by
 apply World.cell?_setCell_other
 intro e
 injection e with e1 e2
 exact h e2
theorem cAt {w:World} {g i:Nat} {v u:Value} (h:w.cell? ⟨g,i,none⟩=some u):(w.setCell ⟨g,i,none⟩ v).cell? ⟨g,i,none⟩=some v:=by
 apply World.cell?_setCell_same
 exact h
theorem fSet {w:World} {g i j:Nat} {v:Value} (h:w.frozen? ⟨g,j,none⟩=false):(w.setCell ⟨g,i,none⟩ v).frozen? ⟨g,j,none⟩=false:=by
 rw [World.frozen?_setCell];exact h
theorem R7.setx {w:World} {g:Nat} {x:Nat→Int} {r f n:Int} (h:R7 w g x r f n) (k:Nat) (hk:k < 4) (v:Int) (y:Nat→Int) (hy:∀ i,i < 4→y i=if i=k then v else x i):R7 (w.setCell ⟨g,k,none⟩ (.int .i64 v)) g y r f n:=by
 refine ⟨by simpa using h.lt,fun i hi=>?_,(cOff (by omega)).trans h.c4,(cOff (by omega)).trans h.c5,(cOff (by omega)).trans h.c6,fun j=>fSet (h.fz j)⟩
 rw [hy i hi]
 by_cases e:i=k
 ·subst e
  rw [if_pos rfl]
  exact cAt (h.c i hi)
 ·rw [if_neg e]
  exact (cOff (fun q=>e q.symm)).trans (h.c i hi)
theorem R7.set4 {w:World} {g:Nat} {x:Nat→Int} {r f n:Int} (h:R7 w g x r f n) (v:Int):R7 (w.setCell ⟨g,4,none⟩ (.int .i64 v)) g x v f n:=⟨by simpa using h.lt,fun i hi=>(cOff (by omega)).trans (h.c i hi),cAt h.c4,(cOff (by omega)).trans h.c5,(cOff (by omega)).trans h.c6,fun j=>fSet (h.fz j)⟩
theorem R7.set5 {w:World} {g:Nat} {x:Nat→Int} {r f n:Int} (h:R7 w g x r f n) (v:Int):R7 (w.setCell ⟨g,5,none⟩ (.int .i64 v)) g x r v n:=⟨by simpa using h.lt,fun i hi=>(cOff (by omega)).trans (h.c i hi),(cOff (by omega)).trans h.c4,cAt h.c5,(cOff (by omega)).trans h.c6,fun j=>fSet (h.fz j)⟩
theorem R7.set6 {w:World} {g:Nat} {x:Nat→Int} {r f n:Int} (h:R7 w g x r f n) (v:Int):R7 (w.setCell ⟨g,6,none⟩ (.int .i64 v)) g x r f v:=⟨by simpa using h.lt,fun i hi=>(cOff (by omega)).trans (h.c i hi),(cOff (by omega)).trans h.c4,(cOff (by omega)).trans h.c5,cAt h.c6,fun j=>fSet (h.fz j)⟩
theorem R7.new (w:World) (x:Nat→Int) (r f n:Int) (T:TypeId):R7 (w.alloc (.cells #[.int .i64 (x 0),.int .i64 (x 1),.int .i64 (x 2),.int .i64 (x 3),.int .i64 r,.int .i64 f,.int .i64 n] T)) w.heap.size x r f n:=by
 refine ⟨by simp,?_,by simp [go_sem],by simp [go_sem],by simp [go_sem],fun j=>by simp [go_sem]⟩
 intro i hi
 match i,hi with
 | 0,_=>simp [go_sem]
 | 1,_=>simp [go_sem]
 | 2,_=>simp [go_sem]
 | 3,_=>simp [go_sem]
def CutR (W:World) (r f n:Int) (v:Value) (wx:World):Prop:=∃ bo,v=.pointer (some ⟨bo,0,none⟩)∧W.heap.size≤bo∧R7 wx bo (fun _=>0) r f n∧Below W.heap.size W wx
theorem cutR1 {W wA:World} {r f n:Int} {T:TypeId} {p:Nat} (h:Below W.heap.size W wA) (hp:p=wA.heap.size):CutR W r f n (.pointer (some ⟨p,0,none⟩)) (wA.alloc (.cells #[.int .i64 0,.int .i64 0,.int .i64 0,.int .i64 0,.int .i64 r,.int .i64 f,.int .i64 n] T)).drew:=by
 subst hp
 exact ⟨_,rfl,h.size,(R7.new wA (fun _=>0) r f n T).keep rfl (Nat.le_refl _),(h.alloc h.size _).drew⟩
theorem cutR2 {W wA:World} {r f n:Int} {T:TypeId} {p:Nat} {o:Obj} (h:Below W.heap.size W wA) (hp:p=wA.heap.size):CutR W r f n (.pointer (some ⟨p,0,none⟩)) ((wA.alloc (.cells #[.int .i64 0,.int .i64 0,.int .i64 0,.int .i64 0,.int .i64 r,.int .i64 f,.int .i64 n] T)).alloc o).drew:=by
 subst hp
 refine ⟨_,rfl,h.size,?_,((h.alloc h.size _).alloc (Nat.le_trans h.size (by simp)) _).drew⟩
 exact ((R7.new wA (fun _=>0) r f n T).below (((Below.refl _ _).alloc (Nat.le_refl _) o)) (by simp)).keep rfl (Nat.le_refl _)
theorem cutR3 {W wA:World} {r f n:Int} {T:TypeId} {p:Nat} {o o':Obj} (h:Below W.heap.size W wA) (hp:p=wA.heap.size):CutR W r f n (.pointer (some ⟨p,0,none⟩)) (((wA.alloc (.cells #[.int .i64 0,.int .i64 0,.int .i64 0,.int .i64 0,.int .i64 r,.int .i64 f,.int .i64 n] T)).alloc o).alloc o').drew:=by
 subst hp
 refine ⟨_,rfl,h.size,?_,(((h.alloc h.size _).alloc (Nat.le_trans h.size (by simp)) _).alloc (Nat.le_trans h.size (by simp;omega)) _).drew⟩
 exact ((R7.new wA (fun _=>0) r f n T).below (((Below.refl _ _).alloc (Nat.le_refl _) o).alloc (by simp) o') (by simp)).keep rfl (Nat.le_refl _)
def ringX (m:List (List WD)) (b k i:Nat):Int:=if i < k then lastV m (b+4+i) else 0
set_option maxHeartbeats 4000000 in
theorem ringIn_any (s : Option Addr) (c lo hi b0 b r : Nat) (m : List (List WD)) (w : World) (h : MemR w lo hi s m) (hB : hi ≤ w.heap.size) (hm : memB m = true) (hb0 : w.cell? ⟨b0, 0, none⟩ = some (.int .i64 b)) (hl : b0 < w.heap.size) (r1 : 1 ≤ r) (r4 : r ≤ 4) (fit : b + r + 4 ≤ 24) :
  Calls Try.prog 26 #[.agg #[.slice s m.length c],.func (.func 42) #[] #[.pointer (some ⟨b0,0,none⟩)],.int .i64 r] w fun e w'=>e=.returned (.agg #[.int .i64 (ringX m b r 0),.int .i64 (ringX m b r 1),.int .i64 (ringX m b r 2),.int .i64 (ringX m b r 3),.int .i64 r,.int .i64 (lastV m (b+1)),.int .i64 (lastV m (b+2))])∧Below w.heap.size w w':=by
 have H:Hid (MemR w lo hi s m):=h
 have HM:Hid (memB m=true):=hm
 clear h hm
 go_enter Try.func26,Try.ntmps26
 go_upto_region 1 with fail
 obtain ⟨W,hW⟩:∃ W,(w.alloc (.cells #[.slice s m.length c] 30)).alloc (.cells #[.int .i64 0,.int .i64 0,.int .i64 0,.int .i64 0,.int .i64 0,.int .i64 0,.int .i64 0] 54)=W:=⟨_,rfl⟩
 have kw:Below w.heap.size w W:=by rw [← hW];exact ((Below.refl _ _).alloc (Nat.le_refl _) _).alloc (by simp) _
 have zw:W.heap.size=w.heap.size+2:=by rw [← hW];simp
 have xa:W.cell? ⟨w.heap.size,0,none⟩=some (.slice s m.length c):=by rw [← hW];simp [go_sem]
 have xb:R7 W (w.heap.size+1) (fun _=>0) 0 0 0:=by rw [← hW];have:=R7.new (w.alloc (.cells #[.slice s m.length c] 30)) (fun _=>0) 0 0 0 54;simpa using this
 rw [hW]
 clear hW
 have XB:Hid (R7 W (w.heap.size+1) (fun _=>0) 0 0 0):=xb
 have KW:Hid (Below w.heap.size w W):=kw
 have xc:W.cell? ⟨b0,0,none⟩=some (.int .i64 b):=(kw.cell (p:=⟨b0,0,none⟩) hl).trans hb0
 have RM:Hid (∀ X,Below W.heap.size W X→MemR X lo hi s m):=fun X hX=>(H.out.keep (Keep.of_below KW.out hB)).keep (Keep.of_below hX (by omega))
 have RB:Hid (∀ X,Below W.heap.size W X→X.cell? ⟨w.heap.size,0,none⟩=some (.slice s m.length c)):=fun X hX=>(hX.cell (p:=⟨w.heap.size,0,none⟩) (by show w.heap.size < _;omega)).trans xa
 have RC:Hid (∀ X,Below W.heap.size W X→X.cell? ⟨b0,0,none⟩=some (.int .i64 b)):=fun X hX=>(hX.cell (p:=⟨b0,0,none⟩) (by show b0 < _;omega)).trans xc
 have F1:Hid (∀ X,Below W.heap.size W X→Calls Try.prog 42 #[.int .i64 1,.pointer (some ⟨b0,0,none⟩)] X fun e w'=>e=.returned (.int .i64 ((b:Int)+1))∧w'=X):=fun X hX=>cell_is b0 b 1 X (RC.out X hX) (by omega) (by omega) (by omega) (by omega)
 have F2:Hid (∀ X,Below W.heap.size W X→Calls Try.prog 42 #[.int .i64 2,.pointer (some ⟨b0,0,none⟩)] X fun e w'=>e=.returned (.int .i64 ((b:Int)+2))∧w'=X):=fun X hX=>cell_is b0 b 2 X (RC.out X hX) (by omega) (by omega) (by omega) (by omega)
 generalize hv1:lastV m (b+1)=v1
 generalize hv2:lastV m (b+2)=v2
 have L1:Hid (∀ X,Below W.heap.size W X→Calls Try.prog 27 #[.agg #[.slice s m.length c],.int .i64 ((b:Int)+1)] X fun e w'=>e=.returned (.int .i64 v1)∧w'=X.alloc (.cells #[.slice s m.length c] 30)):=fun X hX=>hv1▸lastOf_is s c lo hi m (b+1) _ X (RM.out X hX) (by have:=hX.size;omega) HM.out (by omega) (by omega)
 have L2:Hid (∀ X,Below W.heap.size W X→Calls Try.prog 27 #[.agg #[.slice s m.length c],.int .i64 ((b:Int)+2)] X fun e w'=>e=.returned (.int .i64 v2)∧w'=X.alloc (.cells #[.slice s m.length c] 30)):=fun X hX=>hv2▸lastOf_is s c lo hi m (b+2) _ X (RM.out X hX) (by have:=hX.size;omega) HM.out (by omega) (by omega)
 have HV1:Hid (lastV m (b+1)=v1):=hv1
 have HV2:Hid (lastV m (b+2)=v2):=hv2
 clear hv1 hv2
 have kD:Below W.heap.size W W.drew:=Below.drew (Below.refl _ _)
 have hdr:∀ X:World,X.drew.heap.size=X.heap.size:=fun _=>rfl
 have nW:¬ W.heap.size=w.heap.size:=by omega
 have nW':¬ w.heap.size=W.heap.size:=by omega
 have nb:¬ W.heap.size=b0:=by omega
 have nb':¬ b0=W.heap.size:=by omega
 have lb:b0 < W.heap.size:=by omega
 have lw:w.heap.size < W.heap.size:=by omega
 have na00:¬ w.heap.size=W.heap.size+1:=by omega
 have nc00:¬ W.heap.size+1=w.heap.size:=by omega
 have nd00:w.heap.size < W.heap.size+1:=by omega
 have na01:¬ w.heap.size=W.heap.size+1+1:=by omega
 have nc01:¬ W.heap.size+1+1=w.heap.size:=by omega
 have nd01:w.heap.size < W.heap.size+1+1:=by omega
 have na10:¬ b0=W.heap.size+1:=by omega
 have nc10:¬ W.heap.size+1=b0:=by omega
 have nd10:b0 < W.heap.size+1:=by omega
 have na11:¬ b0=W.heap.size+1+1:=by omega
 have nc11:¬ W.heap.size+1+1=b0:=by omega
 have nd11:b0 < W.heap.size+1+1:=by omega
 clear xb kw hb0 hl
 go_cut [7] (fun s7 wx=>CutR W r v1 v2 s7 wx)
 case first=>
  go_region_held3 (fun w'=>w'.cell? ⟨w.heap.size,0,none⟩=some (.slice s m.length c)∧w'.cell? ⟨b0,0,none⟩=some (.int .i64 b)) (first | exact ⟨RB.out _ (by repeat' (first | exact kD | exact Below.refl _ _ | refine Below.drew ?_ | refine Below.alloc ?_ (by first | omega | (simp [hdr];done) | (simp [hdr];omega)) _ | refine Below.setCell ?_ (by first | omega | (simp [hdr];done) | (simp [hdr];omega)) _)),RC.out _ (by repeat' (first | exact kD | exact Below.refl _ _ | refine Below.drew ?_ | refine Below.alloc ?_ (by first | omega | (simp [hdr];done) | (simp [hdr];omega)) _ | refine Below.setCell ?_ (by first | omega | (simp [hdr];done) | (simp [hdr];omega)) _))⟩ | go_keep) (first | (go_at_call 42;(first | with_reducible refine (F1.out _ (by repeat' (first | exact kD | exact Below.refl _ _ | refine Below.drew ?_ | refine Below.alloc ?_ (by first | omega | (simp [hdr];done) | (simp [hdr];omega)) _ | refine Below.setCell ?_ (by first | omega | (simp [hdr];done) | (simp [hdr];omega)) _))).mono ?_ | with_reducible refine (F2.out _ (by repeat' (first | exact kD | exact Below.refl _ _ | refine Below.drew ?_ | refine Below.alloc ?_ (by first | omega | (simp [hdr];done) | (simp [hdr];omega)) _ | refine Below.setCell ?_ (by first | omega | (simp [hdr];done) | (simp [hdr];omega)) _))).mono ?_);rintro e w5 ⟨rfl,hw5⟩;subst w5) | (go_at_call 27;(first | with_reducible refine (L1.out _ (by repeat' (first | exact kD | exact Below.refl _ _ | refine Below.drew ?_ | refine Below.alloc ?_ (by first | omega | (simp [hdr];done) | (simp [hdr];omega)) _ | refine Below.setCell ?_ (by first | omega | (simp [hdr];done) | (simp [hdr];omega)) _))).mono ?_ | with_reducible refine (L2.out _ (by repeat' (first | exact kD | exact Below.refl _ _ | refine Below.drew ?_ | refine Below.alloc ?_ (by first | omega | (simp [hdr];done) | (simp [hdr];omega)) _ | refine Below.setCell ?_ (by first | omega | (simp [hdr];done) | (simp [hdr];omega)) _))).mono ?_);rintro e w6 ⟨rfl,hw6⟩;subst w6))
  all_goals
   go_wp2_with fail
   go_meet
   first
    | with_reducible exact cutR1 (by repeat' (first | exact kD | exact Below.refl _ _ | refine Below.drew ?_ | refine Below.alloc ?_ (by first | omega | (simp [hdr];done) | (simp [hdr];omega)) _ | refine Below.setCell ?_ (by first | omega | (simp [hdr];done) | (simp [hdr];omega)) _)) (by first | omega | (simp;omega))
    | with_reducible exact cutR2 (by repeat' (first | exact kD | exact Below.refl _ _ | refine Below.drew ?_ | refine Below.alloc ?_ (by first | omega | (simp [hdr];done) | (simp [hdr];omega)) _ | refine Below.setCell ?_ (by first | omega | (simp [hdr];done) | (simp [hdr];omega)) _)) (by first | omega | (simp;omega))
    | with_reducible exact cutR3 (by repeat' (first | exact kD | exact Below.refl _ _ | refine Below.drew ?_ | refine Below.alloc ?_ (by first | omega | (simp [hdr];done) | (simp [hdr];omega)) _ | refine Below.setCell ?_ (by first | omega | (simp [hdr];done) | (simp [hdr];omega)) _)) (by first | omega | (simp;omega))
 case rest=>
  obtain ⟨bo,rfl,hbo,hx,hK⟩:=hcut
  have HX0:Hid (R7 wc bo (fun _=>0) r v1 v2):=hx
  have HK0:Hid (Below W.heap.size W wc):=hK
  clear hx hK na00 na01 na10 na11 nc00 nc01 nc10 nc11 nd00 nd01 nd10 nd11 nW nW' nb nb' kD
  go_wp2
  go_loopw [20] (fun i wr=>∃ k:Nat,k≤r∧i=.int .i64 k∧R7 wr bo (ringX m b k) r v1 v2∧Below W.heap.size W wr∧wc.heap.size≤wr.heap.size) (fun i _=>r - (intOf i).toNat)
  case atStart=>exact ⟨0,Nat.zero_le _,rfl,by have e:ringX m b 0=fun _=>0:=(by funext i;simp [ringX]);rw [e];exact HX0.out,HK0.out,Nat.le_refl _⟩
  case round=>
   obtain ⟨k,hk,rfl,hx,hK,hz⟩:=hrel
   have HX:Hid (R7 wr bo (ringX m b k) r v1 v2):=hx
   have HK:Hid (Below W.heap.size W wr):=hK
   have lt:=hx.lt
   have fz:=hx.fz
   have cc:=hx.c
   have p1:=RB.out _ hK
   have p2:=RC.out _ hK
   have zr:=hK.size
   clear hx hK
   by_cases hlt:k < r
   ·have ck:=cc k (by omega)
    clear cc
    have FK:Hid (∀ X,Below W.heap.size W X→Calls Try.prog 42 #[.int .i64 (4+(k:Int)),.pointer (some ⟨b0,0,none⟩)] X fun e w'=>e=.returned (.int .i64 ((b:Int)+(4+(k:Int))))∧w'=X):=fun X hX=>cell_is b0 b (4+(k:Int)) X (RC.out X hX) (by omega) (by omega) (by omega) (by omega)
    generalize hv:lastV m (b+4+k)=v
    have LK:Hid (∀ X,Below W.heap.size W X→Calls Try.prog 27 #[.agg #[.slice s m.length c],.int .i64 ((b:Int)+(4+(k:Int)))] X fun e w'=>e=.returned (.int .i64 v)∧w'=X.alloc (.cells #[.slice s m.length c] 30)):=fun X hX=>hv▸lastOf_is s c lo hi m (b+4+k) _ X (RM.out X hX) (by have:=hX.size;omega) HM.out (by omega) (by omega)
    have HV:Hid (lastV m (b+4+k)=v):=hv
    have kR:Below W.heap.size W wr.drew:=HK.out.drew
    have kR0:Below W.heap.size W wr:=HK.out
    have b1:(k:Int) < 4:=by omega
    have hw4:IntKind.i64.wrap (4+(k:Int))=4+(k:Int):=Go.IntWalk.i64_in _ (by omega)
    have b2:(k:Int) < (r:Int):=by omega
    clear hv
    go_wp2_with fail
    go_region_held3 (fun w'=>w'.cell? ⟨w.heap.size,0,none⟩=some (.slice s m.length c)∧w'.cell? ⟨b0,0,none⟩=some (.int .i64 b)) (first | exact ⟨RB.out _ (by repeat' (first | exact kR | exact kR0 | refine Below.drew ?_ | refine Below.alloc ?_ (by first | omega | (simp [hdr];done) | (simp [hdr];omega)) _ | refine Below.setCell ?_ (by first | omega | (simp [hdr];done) | (simp [hdr];omega)) _)),RC.out _ (by repeat' (first | exact kR | exact kR0 | refine Below.drew ?_ | refine Below.alloc ?_ (by first | omega | (simp [hdr];done) | (simp [hdr];omega)) _ | refine Below.setCell ?_ (by first | omega | (simp [hdr];done) | (simp [hdr];omega)) _))⟩ | go_keep) (first | (go_at_call 42;with_reducible refine (FK.out _ (by repeat' (first | exact kR | exact kR0 | refine Below.drew ?_ | refine Below.alloc ?_ (by first | omega | (simp [hdr];done) | (simp [hdr];omega)) _ | refine Below.setCell ?_ (by first | omega | (simp [hdr];done) | (simp [hdr];omega)) _))).mono ?_;rintro e w5 ⟨rfl,hw5⟩;subst w5) | (go_at_call 27;with_reducible refine (LK.out _ (by repeat' (first | exact kR | exact kR0 | refine Below.drew ?_ | refine Below.alloc ?_ (by first | omega | (simp [hdr];done) | (simp [hdr];omega)) _ | refine Below.setCell ?_ (by first | omega | (simp [hdr];done) | (simp [hdr];omega)) _))).mono ?_;rintro e w6 ⟨rfl,hw6⟩;subst w6))
    go_wp2_with fail
    go_roundw
    case rel=>
     refine ⟨k+1,by omega,by go_num,?_,?_,?_⟩
     ·exact (((HX.out.setx k (by omega) v (ringX m b (k+1)) (fun i _=>by
       by_cases e:i=k
       ·subst e
        rw [if_pos rfl,← HV.out]
        unfold ringX
        rw [if_pos (by omega)]
       ·rw [if_neg e]
        unfold ringX
        by_cases e2:i < k
        ·rw [if_pos e2,if_pos (by omega)]
        ·rw [if_neg e2,if_neg (by omega)]))).below ((Below.refl _ _).alloc (Nat.le_refl _) _) (by simpa using lt)).keep rfl (Nat.le_refl _)
     ·exact ((HK.out.setCell (p:=⟨bo,k,none⟩) hbo _).alloc (by simpa using zr) _).drew
     ·show wc.heap.size≤(((wr.setCell ⟨bo,k,none⟩ (.int .i64 v)).alloc _)).heap.size
      simp
      omega
    case measure=>simp [intOf];omega
   ·have e:k=r:=by omega
    subst e
    have c0:=cc 0 (by omega)
    have c1:=cc 1 (by omega)
    have c2:=cc 2 (by omega)
    have c3:=cc 3 (by omega)
    have c4:=HX.out.c4
    have c5:=HX.out.c5
    have c6:=HX.out.c6
    have U:=XB.out.below HK.out (by omega)
    have y0:=U.c 0 (by omega)
    have y1:=U.c 1 (by omega)
    have y2:=U.c 2 (by omega)
    have y3:=U.c 3 (by omega)
    have y4:=U.c4
    have y5:=U.c5
    have y6:=U.c6
    have yf:=U.fz
    have yl:=U.lt
    clear cc U fz
    go_wp2
    refine bodyPost_ret (v:=.agg #[.int .i64 (ringX m b k 0),.int .i64 (ringX m b k 1),.int .i64 (ringX m b k 2),.int .i64 (ringX m b k 3),.int .i64 k,.int .i64 v1,.int .i64 v2]) (by simp [results,Try.results26,go_sem,y0,y1,y2,y3,y4,y5,y6]) rfl ⟨by rw [HV1.out,HV2.out],?_⟩
    have K:=KW.out.trans (HK.out.mono (by omega))
    exact ((((((K.setCell (p:=⟨w.heap.size+1,0,none⟩) (by simp) _).setCell (p:=⟨w.heap.size+1,1,none⟩) (by simp) _).setCell (p:=⟨w.heap.size+1,2,none⟩) (by simp) _).setCell (p:=⟨w.heap.size+1,3,none⟩) (by simp) _).setCell (p:=⟨w.heap.size+1,4,none⟩) (by simp) _).setCell (p:=⟨w.heap.size+1,5,none⟩) (by simp) _).setCell (p:=⟨w.heap.size+1,6,none⟩) (by simp) _
end Go.Proofs.Ytkhjhibigldcgaa
