/- The ring of the program: put, take, row, and the ring of a channel. Conditions: a room of 1 to 4, at most as many numbers. -/
import Derived.Test.YtknffngbdakblaaGreatJG00
import Derived.Test.YtknffngbdakblaaGreatJG03
namespace Go.Proofs.YtknffngbdakblaaGreat
set_option linter.unusedSimpArgs false
set_option linter.unusedVariables false
set_option maxRecDepth 100000
open Go.RowKit
/- a ring at block g: its row l, from the place f on -/
structure Ring (w:World) (g:Nat) (r f:Int) (l:List Int):Prop where
 r0:1≤r
 r4:r≤4
 f0:0≤f
 fr:f < r
 n:(l.length:Int)≤r
 lt:g < w.heap.size
 room:w.cell? ⟨g,4,none⟩=some (.int .i64 r)
 first:w.cell? ⟨g,5,none⟩=some (.int .i64 f)
 count:w.cell? ⟨g,6,none⟩=some (.int .i64 l.length)
 some4:∀ i,i < 4→∃ z:Int,w.cell? ⟨g,i,none⟩=some (.int .i64 z)
 row:∀ i,i < l.length→w.cell? ⟨g,((f+i) % r).toNat,none⟩=some (.int .i64 (l.getD i 0))
 free:∀ j,w.frozen? ⟨g,j,none⟩=false
theorem Ring.keep {w w':World} {g:Nat} {r f:Int} {l:List Int} (h:Ring w g r f l) (hb:w'.heap[g]? =w.heap[g]?) (hs:w.heap.size≤w'.heap.size):Ring w' g r f l:=by
 have hc:∀ i,w'.cell? ⟨g,i,none⟩=w.cell? ⟨g,i,none⟩:=fun i=>World.cell?_of_block (w:=w) (a:=⟨g,i,none⟩) hb
 have hf:∀ i,w'.frozen? ⟨g,i,none⟩=w.frozen? ⟨g,i,none⟩:=fun i=>World.frozen?_of_block (w:=w) (a:=⟨g,i,none⟩) hb
 have:=h.lt
 exact ⟨h.r0,h.r4,h.f0,h.fr,h.n,by omega,(hc _).trans h.room,(hc _).trans h.first,(hc _).trans h.count,fun i hi=>by obtain ⟨z,hz⟩:=h.some4 i hi;exact ⟨z,(hc i).trans hz⟩,fun i hi=>(hc _).trans (h.row i hi),fun j=>(hf j).trans (h.free j)⟩
theorem mod_ne {r f:Int} {i n:Nat} (r0:1≤r) (r4:r≤4) (f0:0≤f) (fr:f < r) (hi:i < n) (hn:(n:Int) < r):¬ ((f+(n:Int)) % r).toNat=((f+(i:Int)) % r).toNat:=by
 rcases (by omega:r=1∨r=2∨r=3∨r=4) with rfl | rfl | rfl | rfl<;>omega
theorem mod_lt4 {r f:Int} (r0:1≤r) (r4:r≤4):(f % r).toNat < 4:=by
 have h1:=Int.emod_nonneg f (show r≠0 by omega)
 have h2:=Int.emod_lt_of_pos f (show 0 < r by omega)
 omega
theorem mod_step {r f:Int} (i:Nat) (r0:1≤r) (r4:r≤4) (f0:0≤f) (fr:f < r):((f+1) % r+(i:Int)) % r=(f+((i+1:Nat):Int)) % r:=by
 rcases (by omega:r=1∨r=2∨r=3∨r=4) with rfl | rfl | rfl | rfl<;>omega
theorem Ring.put {w : World} {g : Nat} {r f : Int} {l : List Int} (h : Ring w g r f l) (v : Int) (hn : (l.length : Int) < r) :
  Ring ((w.setCell ⟨g,((f+(l.length:Int)) % r).toNat,none⟩ (.int .i64 v)).setCell ⟨g,6,none⟩ (.int .i64 ((l.length:Int)+1))) g r f (l++[v]):=by
 have k4:=mod_lt4 (f:=f+(l.length:Int)) h.r0 h.r4
 obtain ⟨u,cu⟩:=h.some4 _ k4
 refine ⟨h.r0,h.r4,h.f0,h.fr,by simp;omega,by simpa using h.lt,?_,?_,?_,?_,?_,?_⟩
 ·rw [cellOff (by omega),cellOff (by omega)];exact h.room
 ·rw [cellOff (by omega),cellOff (by omega)];exact h.first
 ·rw [cellAt (u:=.int .i64 l.length) (by rw [cellOff (by omega)];exact h.count)]
  simp
 ·intro i hi
  rw [cellOff (by omega)]
  by_cases e:((f+(l.length:Int)) % r).toNat=i
  ·subst e;exact ⟨v,cellAt cu⟩
  ·rw [cellOff e];exact h.some4 i hi
 ·intro i hi
  have i4:=mod_lt4 (f:=f+(i:Int)) h.r0 h.r4
  rw [cellOff (by omega)]
  by_cases e:i < l.length
  ·rw [cellOff (mod_ne h.r0 h.r4 h.f0 h.fr e hn),h.row i e]
   simp [List.getD_eq_getElem?_getD,List.getElem?_append_left e]
  ·have:i=l.length:=by simp at hi;omega
   subst this
   rw [cellAt cu]
   simp [List.getD_eq_getElem?_getD]
 ·intro j
  rw [World.frozen?_setCell,World.frozen?_setCell]
  exact h.free j
theorem Ring.take {w : World} {g : Nat} {r f : Int} {v : Int} {t : List Int} (h : Ring w g r f (v :: t)) :
  Ring ((w.setCell ⟨g,5,none⟩ (.int .i64 ((f+1) % r))).setCell ⟨g,6,none⟩ (.int .i64 (t.length:Int))) g r ((f+1) % r) t:=by
 have h1:=Int.emod_nonneg (f+1) (show r≠0 by have:=h.r0;omega)
 have h2:=Int.emod_lt_of_pos (f+1) (show 0 < r by have:=h.r0;omega)
 refine ⟨h.r0,h.r4,h1,h2,by have:=h.n;simp at this;omega,by simpa using h.lt,?_,?_,?_,?_,?_,?_⟩
 ·rw [cellOff (by omega),cellOff (by omega)];exact h.room
 ·rw [cellOff (by omega),cellAt h.first]
 ·rw [cellAt (u:=_) (by rw [cellOff (by omega)];exact h.count)]
 ·intro i hi
  rw [cellOff (by omega),cellOff (by omega)]
  exact h.some4 i hi
 ·intro i hi
  have i4:=mod_lt4 (f:=(f+1) % r+(i:Int)) h.r0 h.r4
  rw [cellOff (by omega),cellOff (by omega),mod_step i h.r0 h.r4 h.f0 h.fr,h.row (i+1) (by simp;omega)]
  simp [List.getD_eq_getElem?_getD]
 ·intro j
  rw [World.frozen?_setCell,World.frozen?_setCell]
  exact h.free j
set_option maxHeartbeats 1000000 in
theorem put_full (g:Nat) (r f v:Int) (l:List Int) (w:World) (h:Ring w g r f l) (hn:¬ (l.length:Int) < r):Calls Tryz.prog 100 #[.pointer (some ⟨g,0,none⟩),.int .i64 v] w fun e w'=>e=.returned (.bool false)∧∃ n,w'=w.drewN n:=by
 obtain ⟨r0,r4,f0,fr,hl,lt,cr,cf,cn,c4,crow,cfz⟩:=h
 clear crow c4 cfz
 go_enter Tryz.func100,Tryz.ntmps100
 go_wp2_with fail
 go_quiet (fail)
 go_wp2
 go_ret
 exact ⟨rfl,nq,rfl⟩
set_option maxHeartbeats 1000000 in
theorem put_more (g:Nat) (r f v:Int) (l:List Int) (w:World) (h:Ring w g r f l) (hn:(l.length:Int) < r):Calls Tryz.prog 100 #[.pointer (some ⟨g,0,none⟩),.int .i64 v] w fun e w'=>e=.returned (.bool true)∧Ring w' g r f (l++[v])∧w'.heap.size=w.heap.size∧∀ B,B≤g→Below B w w':=by
 have HR:Hid (Ring w g r f l):=h
 obtain ⟨r0,r4,f0,fr,hl,lt,cr,cf,cn,c4,crow,cfz⟩:=h
 clear crow
 have k0:=Int.emod_nonneg (f+l.length) (show r≠0 by omega)
 have kr:=Int.emod_lt_of_pos (f+l.length) (show 0 < r by omega)
 have k4:(f+(l.length:Int)) % r < 4:=by omega
 have n4:¬ ((f+(l.length:Int)) % r).toNat=4:=by omega
 have n5:¬ ((f+(l.length:Int)) % r).toNat=5:=by omega
 have n6:¬ ((f+(l.length:Int)) % r).toNat=6:=by omega
 obtain ⟨u,cu⟩:=c4 ((f+(l.length:Int)) % r).toNat (by omega)
 clear c4
 have rz:¬ r=0:=by omega
 have hw:IntKind.i64.wrap (f+(l.length:Int))=f+(l.length:Int):=Go.IntWalk.i64_in _ (by omega)
 have te:(f+(l.length:Int)).tmod r=(f+(l.length:Int)) % r:=Int.tmod_eq_emod_of_nonneg (by omega)
 go_enter Tryz.func100,Tryz.ntmps100
 go_wp2_with fail
 go_quiet (fail)
 go_wp2_with fail
 go_region_held3 (fun w'=>w'.cell? ⟨g,4,none⟩=some (.int .i64 r)∧w'.cell? ⟨g,5,none⟩=some (.int .i64 f)∧w'.cell? ⟨g,6,none⟩=some (.int .i64 l.length)) (first | go_keep | (refine ⟨?_,?_,?_⟩<;>(rw [cellOff (by assumption)];simp [*]))) (fail)
 go_wp2
 go_ret
 refine ⟨rfl,Ring.put (w:=w.drewN (nq+1)) (HR.out.keep rfl (Nat.le_refl _)) v hn,by simp,fun B hB=>?_⟩
 exact ((show Below B w (w.drewN (nq+1)) from ⟨rfl,rfl,rfl,Nat.le_refl _,fun _ _=>rfl⟩).setCell (p:=⟨g,_,none⟩) hB _).setCell (p:=⟨g,6,none⟩) hB _
set_option maxHeartbeats 1000000 in
theorem take_none (g:Nat) (r f:Int) (w:World) (h:Ring w g r f []):Calls Tryz.prog 108 #[.pointer (some ⟨g,0,none⟩)] w fun e w'=>e=.returned (.tuple #[.int .i64 0,.bool false])∧w'=w:=by
 obtain ⟨r0,r4,f0,fr,hl,lt,cr,cf,cn,c4,crow,cfz⟩:=h
 clear crow c4 cfz
 simp at cn
 go_enter Tryz.func108,Tryz.ntmps108
 go_wp2
 go_ret2
 exact ⟨rfl,rfl⟩
set_option maxHeartbeats 1000000 in
theorem take_some (g:Nat) (r f v:Int) (t:List Int) (w:World) (h:Ring w g r f (v::t)):Calls Tryz.prog 108 #[.pointer (some ⟨g,0,none⟩)] w fun e w'=>e=.returned (.tuple #[.int .i64 v,.bool true])∧Ring w' g r ((f+1) % r) t∧w'.heap.size=w.heap.size∧∀ B,B≤g→Below B w w':=by
 have HR:Hid (Ring w g r f (v::t)):=h
 obtain ⟨r0,r4,f0,fr,hl,lt,cr,cf,cn,c4,crow,cfz⟩:=h
 have c0:w.cell? ⟨g,f.toNat,none⟩=some (.int .i64 v):=by
  have:=crow 0 (by simp)
  rw [show ((f+((0:Nat):Int)) % r)=f by rw [Int.natCast_zero,Int.add_zero,Int.emod_eq_of_lt f0 fr]] at this
  simpa using this
 clear crow c4
 have cn':w.cell? ⟨g,6,none⟩=some (.int .i64 ((t.length:Int)+1)):=by rw [cn];simp
 clear cn
 have tz:(((t.length:Int)+1)==0)=false:=by simp;omega
 have tn:¬ ((t.length:Int)+1=0):=by omega
 have tl:(t.length:Int)+1≤4:=by simp at hl;omega
 clear hl
 have f4:f < 4:=by omega
 have rz:¬ r=0:=by omega
 have hw:IntKind.i64.wrap (f+1)=f+1:=Go.IntWalk.i64_in _ (by omega)
 have te:(f+1).tmod r=(f+1) % r:=Int.tmod_eq_emod_of_nonneg (by omega)
 go_enter Tryz.func108,Tryz.ntmps108
 go_wp2_with fail
 go_quiet (fail)
 go_wp2_with fail
 go_region
 go_wp2
 go_ret2
 refine ⟨rfl,Ring.take (w:=w.drewN (nq+1)) (HR.out.keep rfl (Nat.le_refl _)),by simp,fun B hB=>?_⟩
 exact ((show Below B w (w.drewN (nq+1)) from ⟨rfl,rfl,rfl,Nat.le_refl _,fun _ _=>rfl⟩).setCell (p:=⟨g,5,none⟩) hB _).setCell (p:=⟨g,6,none⟩) hB _
theorem take_snoc' (l:List Int) (k:Nat) (h:k < l.length):l.take (k+1)=l.take k++[l.getD k 0]:=by
 rw [List.take_succ_eq_append_getElem h]
 simp [List.getD_eq_getElem?_getD,h]
set_option maxHeartbeats 1000000 in
theorem row_any (g:Nat) (r f:Int) (l:List Int) (w:World) (h:Ring w g r f l):Calls Tryz.prog 101 #[.pointer (some ⟨g,0,none⟩)] w fun e w'=>∃ v,e=.returned v∧OwnN w' w.heap.size v l∧Below w.heap.size w w':=by
 have HR:Hid (Ring w g r f l):=h
 have cn:=h.count
 have r0:=h.r0
 have r4:=h.r4
 have f0:=h.f0
 have fr:=h.fr
 have hl:=h.n
 have lt:=h.lt
 clear h
 go_enter Tryz.func101,Tryz.ntmps101
 go_wp2
 go_loopw [3,9] (fun v i wr=>∃ k:Nat,k≤l.length∧i=.int .i64 k∧OwnN wr w.heap.size v (l.take k)∧Below w.heap.size w wr) (fun _ i _=>l.length - (intOf i).toNat)
 case atStart=>exact ⟨0,Nat.zero_le _,rfl,ownN_nil _ _,Below.refl _ _⟩
 case round=>
  obtain ⟨k,hk,rfl,ho,hb⟩:=hrel
  have HO:Hid (OwnN wr w.heap.size u3 (l.take k)):=ho
  have HB:Hid (Below w.heap.size w wr):=hb
  have hs:w.heap.size≤wr.heap.size:=hb.size
  clear ho hb
  by_cases hlt:k < l.length
  ·have HRr:Hid (Ring wr g r f l):=HR.out.keep (HB.out.block g lt) hs
   have cr:=HRr.out.room
   have cf:=HRr.out.first
   have ck:=HRr.out.row k hlt
   have gr:g < wr.heap.size:=by omega
   generalize hx:l.getD k 0=x at ck
   have HX:Hid (l.getD k 0=x):=hx
   have HT:Hid (l.take (k+1)=l.take k++[x]):=by show _=_;rw [take_snoc' l k hlt,hx]
   have tl:(l.take k).length=k:=by simp;omega
   clear hx
   have k0:=Int.emod_nonneg (f+k) (show r≠0 by omega)
   have kr:=Int.emod_lt_of_pos (f+k) (show 0 < r by omega)
   have k4:(f+(k:Int)) % r < 4:=by omega
   have rz:¬ r=0:=by omega
   have hw:IntKind.i64.wrap (f+(k:Int))=f+(k:Int):=Go.IntWalk.i64_in _ (by omega)
   have te:(f+(k:Int)).tmod r=(f+(k:Int)) % r:=Int.tmod_eq_emod_of_nonneg (by omega)
   have TL:Hid ((l.take k).length=k):=tl
   clear tl
   generalize l.take k=lk at HO HT TL
   go_wp2_with fail
   go_region_held3 (fun w'=>w'.cell? ⟨g,4,none⟩=some (.int .i64 r)∧w'.cell? ⟨g,5,none⟩=some (.int .i64 f)∧w'.cell? ⟨g,((f+(k:Int)) % r).toNat,none⟩=some (.int .i64 x)) (go_keep) (first | (refine step_row rfl _ _ rfl _ w.heap.size u3 lk rfl (HO.out.alloc (.cells #[.int .i64 x] 3)) wr.heap.size 0 1 [x] rfl (fun i hi=>by simp at hi;subst hi;simp [go_sem]) (by simp) (by have:=TL.out;simp;omega) (by simp;omega) ?_;intro g1 cap1 w1 ho1 hb1 hg1 hg1';have kk:∀ o,w1.cell? ⟨g,o,none⟩=wr.cell? ⟨g,o,none⟩:=(fun o=>(hb1.cell (p:=⟨g,o,none⟩) lt).trans (by simp [go_sem,gr]))))
   have HO1:Hid (OwnN w1 w.heap.size (.slice (some ⟨g1,0,none⟩) (lk.length+1) cap1) (lk++[x])):=ho1
   have HB1:Hid (Below w.heap.size w w1):=HB.out.trans ((show Below w.heap.size wr (wr.alloc (.cells #[.int .i64 x] 3)).drew from Below.drew ((Below.refl _ _).alloc hs _)).trans hb1)
   clear ho1 hb1 kk
   go_wp2
   go_roundw
   case rel=>exact ⟨k+1,by omega,by go_num,by rw [HT.out];exact HO1.out,HB1.out⟩
   case measure=>simp [intOf];omega
  ·go_wp2
   go_ret
   have e:l.take k=l:=List.take_of_length_le (by omega)
   exact ⟨_,rfl,by have:=HO.out;rw [e] at this;exact this,HB.out⟩
/- the ring as a value -/
def RingV (cap:Int) (l:List Int) (v:Value):Prop:=∃ x0 x1 x2 x3:Int,v=.agg #[.int .i64 x0,.int .i64 x1,.int .i64 x2,.int .i64 x3,.int .i64 cap,.int .i64 0,.int .i64 l.length]∧∀ i,i < l.length→[x0,x1,x2,x3].getD i 0=l.getD i 0
theorem ring_new (X:World) (cap:Int) (T:TypeId) (h1:1≤cap) (h4:cap≤4):Ring (X.alloc (.cells #[.int .i64 0,.int .i64 0,.int .i64 0,.int .i64 0,.int .i64 cap,.int .i64 0,.int .i64 0] T)) X.heap.size cap 0 []:=by
 refine ⟨h1,h4,by omega,by omega,by simp;omega,by simp,by simp [go_sem],by simp [go_sem],by simp [go_sem],?_,fun i hi=>absurd hi (Nat.not_lt_zero _),fun j=>by simp [go_sem]⟩
 intro i hi
 match i,hi with
 | 0,_=>exact ⟨0,by simp [go_sem]⟩
 | 1,_=>exact ⟨0,by simp [go_sem]⟩
 | 2,_=>exact ⟨0,by simp [go_sem]⟩
 | 3,_=>exact ⟨0,by simp [go_sem]⟩
theorem Ring.val {w:World} {g:Nat} {r:Int} {l:List Int} (h:Ring w g r 0 l):∃ x0 x1 x2 x3:Int,w.cell? ⟨g,0,none⟩=some (.int .i64 x0)∧w.cell? ⟨g,1,none⟩=some (.int .i64 x1)∧w.cell? ⟨g,2,none⟩=some (.int .i64 x2)∧w.cell? ⟨g,3,none⟩=some (.int .i64 x3)∧∀ i,i < l.length→[x0,x1,x2,x3].getD i 0=l.getD i 0:=by
 obtain ⟨x0,h0⟩:=h.some4 0 (by omega)
 obtain ⟨x1,h1⟩:=h.some4 1 (by omega)
 obtain ⟨x2,h2⟩:=h.some4 2 (by omega)
 obtain ⟨x3,h3⟩:=h.some4 3 (by omega)
 refine ⟨x0,x1,x2,x3,h0,h1,h2,h3,fun i hi=>?_⟩
 have hn:=h.n
 have hr:=h.r4
 have hc:=h.row i hi
 rw [Int.zero_add,Int.emod_eq_of_lt (by omega) (by omega),Int.toNat_natCast] at hc
 match i,hi with
 | 0,_=>rw [h0] at hc;simp at hc;simpa using hc
 | 1,_=>rw [h1] at hc;simp at hc;simpa using hc
 | 2,_=>rw [h2] at hc;simp at hc;simpa using hc
 | 3,_=>rw [h3] at hc;simp at hc;simpa using hc
 | i+4,hi=>omega
theorem ring_back {X:World} {cap:Int} {l:List Int} {x0 x1 x2 x3:Int} {T:TypeId} (h1:1≤cap) (h4:cap≤4) (hn:(l.length:Int)≤cap) (hx:∀ i,i < l.length→[x0,x1,x2,x3].getD i 0=l.getD i 0):Ring (X.alloc (.cells #[.int .i64 x0,.int .i64 x1,.int .i64 x2,.int .i64 x3,.int .i64 cap,.int .i64 0,.int .i64 l.length] T)) X.heap.size cap 0 l:=by
 refine ⟨h1,h4,by omega,by omega,hn,by simp,by simp [go_sem],by simp [go_sem],by simp [go_sem],?_,?_,fun j=>by simp [go_sem]⟩
 ·intro i hi
  match i,hi with
  | 0,_=>exact ⟨x0,by simp [go_sem]⟩
  | 1,_=>exact ⟨x1,by simp [go_sem]⟩
  | 2,_=>exact ⟨x2,by simp [go_sem]⟩
  | 3,_=>exact ⟨x3,by simp [go_sem]⟩
 ·intro i hi
  have hc:=hx i hi
  rw [Int.zero_add,Int.emod_eq_of_lt (by omega) (by omega),Int.toNat_natCast,← hc]
  match i,hi with
  | 0,_=>simp [go_sem]
  | 1,_=>simp [go_sem]
  | 2,_=>simp [go_sem]
  | 3,_=>simp [go_sem]
  | i+4,hi=>omega
set_option maxHeartbeats 1000000 in
theorem ringOf_any (cap:Int) (s:Option Addr) (l:List Int) (c:Nat) (cl:Bool) (w:World) (hr:RowI w w.heap.size s l) (h1:1≤cap) (h4:cap≤4) (hn:(l.length:Int)≤cap):Calls Tryz.prog 99 #[.agg #[.int .i64 cap,.slice s l.length c,.bool cl]] w fun e w'=>∃ v,e=.returned v∧RingV cap l v∧Below w.heap.size w w'∧w.heap.size < w'.heap.size:=by
 have HR:Hid (RowI w w.heap.size s l):=hr
 clear hr
 go_enter Tryz.func99,Tryz.ntmps99
 go_wp2
 go_loopw [12] (fun i wr=>∃ k:Nat,k≤l.length∧i=.int .i64 k∧Ring wr (w.heap.size+1+1) cap 0 (l.take k)∧Below w.heap.size w wr∧wr.heap.size=w.heap.size+3∧(∀ i,i < 7→∃ u,wr.cell? ⟨w.heap.size+1,i,none⟩=some u)∧(∀ j,wr.frozen? ⟨w.heap.size+1,j,none⟩=false)) (fun i _=>l.length - (intOf i).toNat)
 case atStart=>
  refine ⟨0,Nat.zero_le _,rfl,?_,below_2.alloc (by simp;omega) _,by simp,?_,?_⟩
  ·have:=ring_new ((w.alloc (.cells #[.int .i64 cap,.slice s l.length c,.bool cl] 65)).alloc (.cells #[.int .i64 0,.int .i64 0,.int .i64 0,.int .i64 0,.int .i64 0,.int .i64 0,.int .i64 0] 128)) cap 128 h1 h4
   simpa using this
  ·intro i hi
   match i,hi with
   | 0,_=>exact ⟨_,by simp [go_sem];rfl⟩
   | 1,_=>exact ⟨_,by simp [go_sem];rfl⟩
   | 2,_=>exact ⟨_,by simp [go_sem];rfl⟩
   | 3,_=>exact ⟨_,by simp [go_sem];rfl⟩
   | 4,_=>exact ⟨_,by simp [go_sem];rfl⟩
   | 5,_=>exact ⟨_,by simp [go_sem];rfl⟩
   | 6,_=>exact ⟨_,by simp [go_sem];rfl⟩
  ·intro j
   simp [go_sem]
 case round=>
  obtain ⟨k,hk,rfl,hrg,hb,hsz,hu,hf⟩:=hrel
  have HG:Hid (Ring wr (w.heap.size+1+1) cap 0 (l.take k)):=hrg
  have HB:Hid (Below w.heap.size w wr):=hb
  have HU:Hid (∀ i,i < 7→∃ u,wr.cell? ⟨w.heap.size+1,i,none⟩=some u):=hu
  clear hrg hb hu
  by_cases hlt:k < l.length
  ·rcases HR.out with rfl | ⟨g,o,rfl,hg,hc⟩
   ·simp at hlt
   have ck:=(HB.out.cell (p:=⟨g,o+k,none⟩) hg).trans (hc k hlt)
   have HF:Hid (∀ j,wr.frozen? ⟨w.heap.size+1,j,none⟩=false):=hf
   clear hc hf
   generalize hx:l.getD k 0=x at ck
   have HT:Hid (l.take (k+1)=l.take k++[x]):=by show _=_;rw [take_snoc' l k hlt,hx]
   have HL:Hid ((l.take k).length=k):=by show _=_;simp;omega
   clear hx
   have b0:(0:Int)≤(k:Int):=by omega
   have b1:(k:Int) < (l.length:Int):=by omega
   go_wp2_with (go_at_call 100;refine (put_more _ cap 0 x (l.take k) wr HG.out (by have:=HL.out;omega)).mono ?_;rintro e w1 ⟨rfl,hr1,hs1,hb1⟩)
   have K1:=hb1 (w.heap.size+1+1) (Nat.le_refl _)
   go_roundw
   case rel=>
    refine ⟨k+1,by omega,by go_num,by rw [HT.out];exact hr1,HB.out.trans (K1.mono (by omega)),by omega,?_,?_⟩
    ·intro i hi
     obtain ⟨u,hu⟩:=HU.out i hi
     exact ⟨u,(K1.cell (p:=⟨w.heap.size+1,i,none⟩) (by simp)).trans hu⟩
    ·intro j
     exact (K1.frozen (p:=⟨w.heap.size+1,j,none⟩) (by simp)).trans (HF.out j)
   case measure=>simp [intOf];omega
  ·have e:l.take k=l:=List.take_of_length_le (by omega)
   have HG2:Hid (Ring wr (w.heap.size+1+1) cap 0 l):=by have:=HG.out;rw [e] at this;exact this
   clear HG
   obtain ⟨x0,x1,x2,x3,a0,a1,a2,a3,hx⟩:=HG2.out.val
   have HX:Hid (∀ i,i < l.length→[x0,x1,x2,x3].getD i 0=l.getD i 0):=hx
   clear hx
   have a4:=HG2.out.room
   have a5:=HG2.out.first
   have a6:=HG2.out.count
   obtain ⟨u0,y0⟩:=HU.out 0 (by omega)
   obtain ⟨u1,y1⟩:=HU.out 1 (by omega)
   obtain ⟨u2,y2⟩:=HU.out 2 (by omega)
   obtain ⟨u3,y3⟩:=HU.out 3 (by omega)
   obtain ⟨u4,y4⟩:=HU.out 4 (by omega)
   obtain ⟨u5,y5⟩:=HU.out 5 (by omega)
   obtain ⟨u6,y6⟩:=HU.out 6 (by omega)
   have HZ:Hid (wr.heap.size=w.heap.size+3):=hsz
   clear hsz e
   go_wp2
   refine bodyPost_ret (v:=.agg #[.int .i64 x0,.int .i64 x1,.int .i64 x2,.int .i64 x3,.int .i64 cap,.int .i64 0,.int .i64 l.length]) (by simp [results,Tryz.results99,go_sem,y0,y1,y2,y3,y4,y5,y6]) rfl ⟨_,rfl,⟨x0,x1,x2,x3,rfl,HX.out⟩,?_,?_⟩
   ·have K:=HB.out
    exact ((((((K.setCell (p:=⟨w.heap.size+1,0,none⟩) (by simp) _).setCell (p:=⟨w.heap.size+1,1,none⟩) (by simp) _).setCell (p:=⟨w.heap.size+1,2,none⟩) (by simp) _).setCell (p:=⟨w.heap.size+1,3,none⟩) (by simp) _).setCell (p:=⟨w.heap.size+1,4,none⟩) (by simp) _).setCell (p:=⟨w.heap.size+1,5,none⟩) (by simp) _).setCell (p:=⟨w.heap.size+1,6,none⟩) (by simp) _
   ·have:=HZ.out
    simp [go_sem];omega
end Go.Proofs.YtknffngbdakblaaGreat
