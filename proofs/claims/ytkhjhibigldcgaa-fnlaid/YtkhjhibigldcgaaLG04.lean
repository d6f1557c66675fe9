/- The row of a ring. Conditions: a room of 1 to 4. Views: what the program and the specification make of rows of integers (copied, cut, learn, knows, Join, Knows). Conditions: at most 2^20 + 1 integers a row. Rows of rows of writes that append makes. No condition. Memories whose rows are owned whole: rows of writes and rows of rows that append may grow. No condition. Memories copied by the program: sameWrites, sameMemory. Conditions: they are counted. Memories copied by the program: sameMemory. Conditions: they are counted. -/
import Derived.Test.YtkhjhibigldcgaaLG00
import Derived.Test.YtkhjhibigldcgaaLG02
import Derived.Test.YtkhjhibigldcgaaLG01
import Derived.Test.YtkhjhibigldcgaaLN9Ring
import Derived.Deep.RegionHeld3
import Derived.Laws.CopyOwn
namespace Go.Proofs.Ytkhjhibigldcgaa
section
set_option linter.unusedSimpArgs false
set_option linter.unusedVariables false
set_option maxRecDepth 100000
open Go.RowKit
theorem ownN_nil (w:World) (base:Nat):OwnN w base (.slice none 0 0) []:=World.ownsRow_nil _ _ _ _
theorem OwnN.low {w:World} {b b':Nat} {v:Value} {ls:List Int} (h:OwnN w b v ls) (hb:b'≤b):OwnN w b' v ls:=by
 obtain ⟨h1,h2⟩:=h
 refine ⟨h1,?_⟩
 rcases h2 with h2 | ⟨g,cap,cur,a,b0,c,d⟩
 ·exact .inl h2
 ·exact .inr ⟨g,cap,cur,a,Nat.le_trans hb b0,c,d⟩
theorem OwnN.set {w:World} {base:Nat} {v:Value} {ls:List Int} (h:OwnN w base v ls) {a:Addr} (ha:a.block < base) (u:Value):OwnN (w.setCell a u) base v ls:=ownsRow_setCell_below h ha u
/- a ring at block g: its row l, from the place f on -/
structure Ring (w:World) (g:Nat) (r f:Int) (l:List Int):Prop where
 r0:1≤r
 r4:r≤4
 f0:0≤f
 fr:f < r
 n:(l.length:Int)≤r
 lt:g < w.heap.size
 room:w.cell? ⟨g,4,none⟩=some (.int .i64 r)
 first:w.cell? ⟨g,5,none⟩=some (.int .i64 f)
 count:w.cell? ⟨g,6,none⟩=some (.int .i64 l.length)
 some4:∀ i,i < 4→∃ z:Int,w.cell? ⟨g,i,none⟩=some (.int .i64 z)
 row:∀ i,i < l.length→w.cell? ⟨g,((f+i) % r).toNat,none⟩=some (.int .i64 (l.getD i 0))
 free:∀ j,w.frozen? ⟨g,j,none⟩=false
theorem Ring.keep {w w':World} {g:Nat} {r f:Int} {l:List Int} (h:Ring w g r f l) (hb:w'.heap[g]? =w.heap[g]?) (hs:w.heap.size≤w'.heap.size):Ring w' g r f l:=by
 have hc:∀ i,w'.cell? ⟨g,i,none⟩=w.cell? ⟨g,i,none⟩:=fun i=>World.cell?_of_block (w:=w) (a:=⟨g,i,none⟩) hb
 have hf:∀ i,w'.frozen? ⟨g,i,none⟩=w.frozen? ⟨g,i,none⟩:=fun i=>World.frozen?_of_block (w:=w) (a:=⟨g,i,none⟩) hb
 have:=h.lt
 exact ⟨h.r0,h.r4,h.f0,h.fr,h.n,by omega,(hc _).trans h.room,(hc _).trans h.first,(hc _).trans h.count,fun i hi=>by obtain ⟨z,hz⟩:=h.some4 i hi;exact ⟨z,(hc i).trans hz⟩,fun i hi=>(hc _).trans (h.row i hi),fun j=>(hf j).trans (h.free j)⟩
theorem take_snoc' (l:List Int) (k:Nat) (h:k < l.length):l.take (k+1)=l.take k++[l.getD k 0]:=by
 rw [List.take_succ_eq_append_getElem h]
 simp [List.getD_eq_getElem?_getD,h]
set_option maxHeartbeats 1000000 in
theorem row_any (g:Nat) (r f:Int) (l:List Int) (w:World) (h:Ring w g r f l):Calls Try.prog 30 #[.pointer (some ⟨g,0,none⟩)] w fun e w'=>∃ v,e=.returned v∧OwnN w' w.heap.size v l∧Below w.heap.size w w':=by
 have HR:Hid (Ring w g r f l):=h
 have cn:=h.count
 have r0:=h.r0
 have r4:=h.r4
 have f0:=h.f0
 have fr:=h.fr
 have hl:=h.n
 have lt:=h.lt
 clear h
 go_enter Try.func30,Try.ntmps30
 go_wp2
 go_loopw [3,9] (fun v i wr=>∃ k:Nat,k≤l.length∧i=.int .i64 k∧OwnN wr w.heap.size v (l.take k)∧Below w.heap.size w wr) (fun _ i _=>l.length - (intOf i).toNat)
 case atStart=>exact ⟨0,Nat.zero_le _,rfl,ownN_nil _ _,Below.refl _ _⟩
 case round=>
  obtain ⟨k,hk,rfl,ho,hb⟩:=hrel
  have HO:Hid (OwnN wr w.heap.size u3 (l.take k)):=ho
  have HB:Hid (Below w.heap.size w wr):=hb
  have hs:w.heap.size≤wr.heap.size:=hb.size
  clear ho hb
  by_cases hlt:k < l.length
  ·have HRr:Hid (Ring wr g r f l):=HR.out.keep (HB.out.block g lt) hs
   have cr:=HRr.out.room
   have cf:=HRr.out.first
   have ck:=HRr.out.row k hlt
   have gr:g < wr.heap.size:=by omega
   generalize hx:l.getD k 0=x at ck
   have HX:Hid (l.getD k 0=x):=hx
   have HT:Hid (l.take (k+1)=l.take k++[x]):=by show _=_;rw [take_snoc' l k hlt,hx]
   have tl:(l.take k).length=k:=by simp;omega
   clear hx
   have k0:=Int.emod_nonneg (f+k) (show r≠0 by omega)
   have kr:=Int.emod_lt_of_pos (f+k) (show 0 < r by omega)
   have k4:(f+(k:Int)) % r < 4:=by omega
   have rz:¬ r=0:=by omega
   have hw:IntKind.i64.wrap (f+(k:Int))=f+(k:Int):=Go.IntWalk.i64_in _ (by omega)
   have te:(f+(k:Int)).tmod r=(f+(k:Int)) % r:=Int.tmod_eq_emod_of_nonneg (by omega)
   have TL:Hid ((l.take k).length=k):=tl
   clear tl
   generalize l.take k=lk at HO HT TL
   go_wp2_with fail
   go_region_held3 (fun w'=>w'.cell? ⟨g,4,none⟩=some (.int .i64 r)∧w'.cell? ⟨g,5,none⟩=some (.int .i64 f)∧w'.cell? ⟨g,((f+(k:Int)) % r).toNat,none⟩=some (.int .i64 x)) (go_keep) (first | (refine step_row rfl _ _ rfl _ w.heap.size u3 lk rfl (HO.out.alloc (.cells #[.int .i64 x] 3)) wr.heap.size 0 1 [x] rfl (fun i hi=>by simp at hi;subst hi;simp [go_sem]) (by simp) (by have:=TL.out;simp;omega) (by simp;omega) ?_;intro g1 cap1 w1 ho1 hb1 hg1 hg1';have kk:∀ o,w1.cell? ⟨g,o,none⟩=wr.cell? ⟨g,o,none⟩:=(fun o=>(hb1.cell (p:=⟨g,o,none⟩) lt).trans (by simp [go_sem,gr]))))
   have HO1:Hid (OwnN w1 w.heap.size (.slice (some ⟨g1,0,none⟩) (lk.length+1) cap1) (lk++[x])):=ho1
   have HB1:Hid (Below w.heap.size w w1):=HB.out.trans ((show Below w.heap.size wr (wr.alloc (.cells #[.int .i64 x] 3)).drew from Below.drew ((Below.refl _ _).alloc hs _)).trans hb1)
   clear ho1 hb1 kk
   go_wp2
   go_roundw
   case rel=>exact ⟨k+1,by omega,by go_num,by rw [HT.out];exact HO1.out,HB1.out⟩
   case measure=>simp [intOf];omega
  ·go_wp2
   go_ret
   have e:l.take k=l:=List.take_of_length_le (by omega)
   exact ⟨_,rfl,by have:=HO.out;rw [e] at this;exact this,HB.out⟩
structure CH where
 cap:Int
 ls:List Int
 cl:Bool
 ok:Bool
def fitB (m:List (List WD)) (b r:Nat):Bool:=decide (0≤lastV m (b+1)∧lastV m (b+1) < (r:Int))&&decide (0≤lastV m (b+2)∧lastV m (b+2)≤(r:Int))&&decide (0≤lastV m (b+3)∧lastV m (b+3)≤1)
def listV (m:List (List WD)) (b r:Nat):List Int:=(List.range (lastV m (b+2)).toNat).map (fun (i:Nat)=>lastV m (b+4+((lastV m (b+1)+(i:Int)) % (r:Int)).toNat))
def zeroCH:CH:=⟨0,[],false,false⟩
def chanMx152 (m:List (List WD)) (l:List Int) (n:Int):CH:=if decide (0≤baseV l n)&&memB m&&fitB m (baseV l n).toNat (l.getD n.toNat 0).toNat then ⟨l.getD n.toNat 0,listV m (baseV l n).toNat (l.getD n.toNat 0).toNat,lastV m ((baseV l n).toNat+3)==1,true⟩ else zeroCH
theorem listV_len (m:List (List WD)) (b r:Nat):(listV m b r).length=(lastV m (b+2)).toNat:=by simp [listV]
theorem listV_at (m:List (List WD)) (b r i:Nat) (hi:i < (lastV m (b+2)).toNat):(listV m b r).getD i 0=lastV m (b+4+((lastV m (b+1)+(i:Int)) % (r:Int)).toNat):=by
 simp [listV,List.getD_eq_getElem?_getD,hi]
theorem R7.ring {w:World} {g b r:Nat} {m:List (List WD)} (h:R7 w g (ringX m b r) r (lastV m (b+1)) (lastV m (b+2))) (r1:1≤r) (r4:r≤4) (hf:0≤lastV m (b+1)∧lastV m (b+1) < (r:Int)) (hn:0≤lastV m (b+2)∧lastV m (b+2)≤(r:Int)):Ring w g r (lastV m (b+1)) (listV m b r):=by
 refine ⟨by omega,by omega,hf.1,hf.2,by rw [listV_len];omega,h.lt,h.c4,h.c5,by rw [h.c6,listV_len];congr 2;omega,fun i hi=>⟨_,h.c i hi⟩,fun i hi=>?_,h.fz⟩
 rw [listV_len] at hi
 rw [listV_at m b r i hi]
 have q0:=Int.emod_nonneg (lastV m (b+1)+(i:Int)) (show (r:Int)≠0 by omega)
 have q1:=Int.emod_lt_of_pos (lastV m (b+1)+(i:Int)) (show (0:Int) < (r:Int) by omega)
 generalize (lastV m (b+1)+(i:Int)) % (r:Int)=z at q0 q1
 have hz:z.toNat < r:=by omega
 rw [h.c z.toNat (by omega)]
 unfold ringX
 rw [if_pos hz]
theorem ringOk_is (x0 x1 x2 x3 f n:Int) (r:Nat) (w:World) (r4:r≤4):Calls Try.prog 28 #[.agg #[.int .i64 x0,.int .i64 x1,.int .i64 x2,.int .i64 x3,.int .i64 r,.int .i64 f,.int .i64 n]] w fun e w'=>e=.returned (.bool (decide (0≤f∧f < (r:Int))&&decide (0≤n∧n≤(r:Int))))∧Below w.heap.size w w':=by
 have io1:=fun X=>isOneOfD_any f r X
 have io2:=fun X=>isOneOfD_any n ((r:Int)+1) X
 have e2:decide (0≤n∧n < (r:Int)+1)=decide (0≤n∧n≤(r:Int)):=by rw [decide_eq_decide];omega
 rw [e2] at io2
 by_cases hf:0≤f∧f < (r:Int)
 ·rw [decide_eq_true hf,Bool.true_and]
  rw [decide_eq_true hf] at io1
  generalize decide (0≤n∧n≤(r:Int))=bb at io2
  clear hf e2
  go_enter Try.func28,Try.ntmps28
  go_wp2_with (go_at_call 43;(first | with_reducible refine (io1 _).mono ?_ | refine (io2 _).mono ?_);rintro e w9 ⟨rfl,hw9⟩;subst w9)
  go_ret
  exact ⟨by simp [Array.getD],(Below.refl _ _).alloc (Nat.le_refl _) _⟩
 ·rw [decide_eq_false hf,Bool.false_and]
  rw [decide_eq_false hf] at io1
  clear hf e2 io2
  go_enter Try.func28,Try.ntmps28
  go_wp2_with (go_at_call 43;refine (io1 _).mono ?_;rintro e w9 ⟨rfl,hw9⟩;subst w9)
  go_ret
  exact ⟨by simp [Array.getD],(Below.refl _ _).alloc (Nat.le_refl _) _⟩
end
section
set_option linter.unusedSimpArgs false
set_option linter.unusedVariables false
set_option maxRecDepth 100000
open Go.RowKit
def mx (a b:Int):Int:=if a < b then b else a
def learnL:List Int→List Int→List Int
 | [],_=>[]
 | a::l,[]=>a::l
 | a::l,b::r=>mx a b::learnL l r
def joinL (a b:List Int):List Int:=List.zipWith mx a b
theorem learn_len:∀ (l r:List Int),(learnL l r).length=l.length
 | [],r=>by cases r<;>rfl
 | a::l,[]=>rfl
 | a::l,b::r=>by simp [learnL,learn_len l r]
theorem join_take:∀ (l r:List Int),joinL (l.take (min l.length r.length)) r=joinL l r
 | [],r=>by simp [joinL]
 | a::l,[]=>by simp [joinL]
 | a::l,b::r=>by
  have h:=join_take l r
  simp only [joinL] at h ⊢
  rw [List.length_cons,List.length_cons,Nat.add_min_add_right,List.take_succ_cons,List.zipWith_cons_cons,List.zipWith_cons_cons,h]
theorem join_cut (l r:List Int) (h:r.length≤l.length):joinL (l.take r.length) r=joinL l r:=by
 have:=join_take l r
 rwa [Nat.min_eq_right h] at this
theorem join_cut' (l r:List Int) (h:l.length≤r.length):joinL l (r.take l.length)=joinL l r:=by
 simp only [joinL]
 apply List.ext_getElem? fun i=>?_
 rw [List.getElem?_zipWith,List.getElem?_zipWith]
 by_cases hi:i < l.length
 ·rw [List.getElem?_take,if_pos hi]
 ·rw [List.getElem?_eq_none (show l.length≤i by omega)]
theorem join_len (l r:List Int):(joinL l r).length=min l.length r.length:=by simp [joinL]
theorem join_step (k:Nat) (l r:List Int) (h:k < l.length) (h':k < r.length):joinL (l.take (k+1)) (r.take (k+1))=joinL (l.take k) (r.take k)++[mx (l.getD k 0) (r.getD k 0)]:=by
 rw [List.take_add_one,List.take_add_one,List.getElem?_eq_getElem h,List.getElem?_eq_getElem h']
 simp only [joinL,Option.toList_some]
 rw [List.zipWith_append (by simp;omega)]
 simp [List.getD_eq_getElem?_getD,h,h']
theorem mx_l1 (a b:Int):(if a > b then a else b)=mx a b:=by unfold mx;split<;>split<;>omega
theorem l1Max_any (a b:Int) (w:World):Calls Try.prog 50 #[.int .i64 a,.int .i64 b] w fun e w'=>e=.returned (.int .i64 (mx a b))∧w'=w:=by
 rw [← mx_l1]
 by_cases h:a > b
 ·rw [if_pos h]
  go_enter Try.func50,Try.ntmps50
  go_wp2
  go_ret
  exact ⟨rfl,rfl⟩
 ·rw [if_neg h]
  go_enter Try.func50,Try.ntmps50
  go_wp2
  go_ret
  exact ⟨rfl,rfl⟩
set_option maxHeartbeats 2000000 in
theorem specJoin_any (s s' : Option Addr) (c c' lo hi lo' hi' : Nat) (l l' : List Int) (w : World) (h : IntsR w lo hi s l) (h' : IntsR w lo' hi' s' l') (hl : l.length ≤ 1048577) (hl' : l'.length ≤ 1048577) (hB : hi ≤ w.heap.size) (hB' : hi' ≤ w.heap.size) :
  Calls Try.prog 74 #[.slice s l.length c,.slice s' l'.length c'] w fun e w'=>∃ v,e=.returned v∧OwnN w' w.heap.size v (joinL l l')∧Below w.heap.size w w':=by
 have H:Hid (IntsR w lo hi s l):=h
 have H':Hid (IntsR w lo' hi' s' l'):=h'
 clear h h'
 go_enter Try.func74,Try.ntmps74
 go_wp2
 go_loopw [5,6] (fun u i wr=>∃ k:Nat,k≤l.length∧k≤l'.length∧i=.int .i64 k∧OwnN wr w.heap.size u (joinL (l.take k) (l'.take k))∧Below w.heap.size w wr) (fun _ i _=>l'.length - (intOf i).toNat)
 case atStart=>exact ⟨0,Nat.zero_le _,Nat.zero_le _,rfl,by simpa [joinL] using ownN_empty (Nat.le_refl _),(Below.refl _ _).alloc (Nat.le_refl _) _⟩
 case round=>
  obtain ⟨k,hk,hk',rfl,ho,hb⟩:=hrel
  have HO:Hid (OwnN wr w.heap.size u5 (joinL (l.take k) (l'.take k))):=ho
  have HB:Hid (Below w.heap.size w wr):=hb
  have hs:=hb.size
  clear ho hb
  by_cases hlt:k < l.length
  ·by_cases hlt':k < l'.length
   ·obtain ⟨g,o,e1,a1,a2,a3⟩:=H.out.pos (by omega)
    obtain ⟨g',o',e1',a1',a2',a3'⟩:=H'.out.pos (by omega)
    subst e1 e1'
    have e1:=(HB.out.cell (p:=⟨g,o+k,none⟩) (show g < _ by omega)).trans (a3 k hlt)
    have e2:=(HB.out.cell (p:=⟨g',o'+k,none⟩) (show g' < _ by omega)).trans (a3' k hlt')
    have ST:Hid (joinL (l.take (k+1)) (l'.take (k+1))=joinL (l.take k) (l'.take k)++[mx (l.getD k 0) (l'.getD k 0)]):=join_step k l l' hlt hlt'
    have TL:Hid ((joinL (l.take k) (l'.take k)).length=k):=by show (joinL (l.take k) (l'.take k)).length=k;rw [join_len];simp;omega
    clear a3 a3'
    generalize l.getD k 0=x at e1 ST
    generalize l'.getD k 0=y at e2 ST
    generalize joinL (l.take k) (l'.take k)=lk at HO ST TL
    generalize hz:mx x y=z at ST
    have HZ:Hid (mx x y=z):=hz
    clear hz
    have b0:(0:Int)≤(k:Int):=by omega
    have b1:(k:Int) < (l.length:Int):=by omega
    have b2:(k:Int) < (l'.length:Int):=by omega
    have gl:g < wr.heap.size:=by omega
    have gl':g' < wr.heap.size:=by omega
    go_wp2_with fail
    go_region_held3 (fun w'=>w'.cell? ⟨g,o+k,none⟩=some (.int .i64 x)∧w'.cell? ⟨g',o'+k,none⟩=some (.int .i64 y)) (go_keep) (first | (go_at_call 50;refine (l1Max_any x y _).mono ?_;rintro e w' ⟨rfl,rfl⟩;rw [HZ.out]) | (refine step_row rfl _ _ rfl _ w.heap.size u5 lk rfl (HO.out.alloc (.cells #[.int .i64 z] 3)) wr.heap.size 0 1 [z] rfl (fun i hi=>by simp at hi;subst hi;simp [go_sem]) (by simp) (by have:=TL.out;simp;omega) (by simp;omega) ?_;intro g1 cap1 w1 ho1 hb1 hg1 hg1';have t1:=(hb1.cell (p:=⟨g,o+k,none⟩) (show g < w.heap.size by omega)).trans ((show _=wr.cell? ⟨g,o+k,none⟩ by simp [go_sem,gl]).trans e1);have t2:=(hb1.cell (p:=⟨g',o'+k,none⟩) (show g' < w.heap.size by omega)).trans ((show _=wr.cell? ⟨g',o'+k,none⟩ by simp [go_sem,gl']).trans e2)))
    have HO1:Hid (OwnN w1 w.heap.size (.slice (some ⟨g1,0,none⟩) (lk.length+1) cap1) (lk++[z])):=ho1
    have HB1:Hid (Below w.heap.size w w1):=HB.out.trans ((show Below w.heap.size wr (wr.alloc (.cells #[.int .i64 z] 3)).drew from Below.drew ((Below.refl _ _).alloc hs _)).trans hb1)
    clear ho1 hb1 t1 t2
    go_wp2
    go_roundw
    case rel=>exact ⟨k+1,by omega,by omega,by go_num,by rw [ST.out];exact HO1.out,HB1.out⟩
    case measure=>simp [intOf];omega
   ·have e0:joinL (l.take k) (l'.take k)=joinL l l':=by
     have:k=l'.length:=by omega
     subst this
     rw [List.take_length]
     have:=join_cut l l' hk
     exact this
    go_wp2
    go_ret
    exact ⟨_,rfl,by have:=HO.out;rw [e0] at this;exact this,HB.out⟩
  ·have e0:joinL (l.take k) (l'.take k)=joinL l l':=by
    have:k=l.length:=by omega
    subst this
    rw [List.take_length]
    have:=join_cut' l l' hk'
    exact this
   go_wp2
   go_ret
   exact ⟨_,rfl,by have:=HO.out;rw [e0] at this;exact this,HB.out⟩
end
section
set_option linter.unusedSimpArgs false
set_option linter.unusedVariables false
set_option maxRecDepth 100000
open Go.RowKit
def RS.val (r:RS):Value:=.slice r.s r.vs.length r.c
structure OM (w:World) (B:Nat) (v:Value) (S:List RS) (m:List (List WD)):Prop where
 n:S.length=m.length
 row:w.ownsRow B 78 1 v S.length (S.map RS.val)
 r:∀ (i:Nat) (r:RS) (l:List WD),S[i]? =some r→m[i]? =some l→RO w B w.heap.size r l
 d:(mAs S).Nodup
 sep:∀ a∈mAs S,v.ownBlock≠some a.block
theorem OM.mo {w:World} {B:Nat} {v:Value} {S:List RS} {m:List (List WD)} (h:OM w B v S m):∃ s c,v=.slice s m.length c∧MO w B w.heap.size s S m:=by
 rcases Nat.eq_zero_or_pos S.length with h0 | hpos
 ·obtain ⟨s,c,e⟩:=ownSl h.row
  have h1:=h.n
  have hm:m=[]:=List.length_eq_zero_iff.1 (by omega)
  exact ⟨s,c,by rw [e,h1],h1,.inl hm,h.r,h.d⟩
 ·obtain ⟨g,cap,rfl,-⟩:=World.ownsRow.form h.row hpos
  have hlt:=World.ownsRow.lt h.row g rfl
  refine ⟨_,_,by rw [h.n],h.n,.inr ⟨g,0,rfl,hlt.1,hlt.2,fun i r hr=>?_⟩,h.r,h.d⟩
  have hi':=(List.getElem?_eq_some_iff.1 hr).1
  rw [Nat.zero_add,World.ownsRow.cellAt h.row i (by omega),List.getElem?_map,hr]
  rfl
theorem OM.blk {w:World} {B:Nat} {v:Value} {S:List RS} {m:List (List WD)} (h:OM w B v S m) {a:Addr} (ha:a∈mAs S):B≤a.block∧a.block < w.heap.size:=by
 obtain ⟨s,c,-,hm⟩:=h.mo
 exact hm.blk ha
theorem infoW:∃ i,Try.prog.info? 78=some i∧i.zero=some (.slice none 0 0)∧i.size=1∧i.bytes=24:=⟨_,rfl,rfl,rfl,rfl⟩
theorem wp_rowW {o : Oper} {a : Act} {w : World} {K : Act → World → Prop} {Q : Exit → Act → World → Prop} (s x : Operand) (ho : o.op = .call { callee := .builtin .append, args := #[s, x], argTypes := #[28, 28] })
  (base:Nat) (v:Value) (n:Nat) (xs:List Value) (hs:a.eval s=v) (hown:w.ownsRow base 78 1 v n xs) (g0:Nat) (u:Value) (hu:u.oneCell'=true) (hx:a.eval x=.slice (some ⟨g0,0,none⟩) 1 1) (hc:w.cell? ⟨g0,0,none⟩=some u) (hn:n≤1073741824) (hbase:base≤w.heap.size)
  (h:∀ g cap w',w'.ownsRow base 78 1 (.slice (some ⟨g,0,none⟩) (n+1) cap) (n+1) (xs++[u])→w.grownBy w' v.ownBlock→(v.ownBlock=some g∨w.heap.size≤g)→g < w'.heap.size→K (a.put o.dst (.slice (some ⟨g,0,none⟩) (n+1) cap)) w'):Oper.wp Try.prog o a w K Q:=by
 obtain ⟨i0,hi,hz0,hz1,hz2⟩:=infoW
 refine wp_append_lies w s x 28 ho base 78 i0 _ 1 24 Try.underlying28 hi hz0 hz1 hz2 rfl (by decide) v n xs hs hown ⟨g0,0,none⟩ 1 1 [u] hx rfl (fun j u' hj=>?_) (fun u' hu'=>by simp at hu';subst hu';exact hu) (by decide) (by unfold maxLen;omega) (by omega) hbase _ rfl ?_
 ·match j,hj with
  | 0,hj=>simp at hj;subst hj;simpa [Addr.add] using hc
  | j+1,hj=>simp at hj
 ·intro g cap w' q1 q2 q3 q4
  exact h g cap w' q1 q2 (by rcases q3 with q3 | q3<;>first | exact .inl q3 | exact .inr (by omega)) q4
theorem step_rowW {ops : Array Oper} {o : Oper} {a : Act} {K : Act → World → Prop} {Q : Exit → Act → World → Prop} {E : Prop} (hgd : o.guard = none) (s x : Operand) (ho : o.op = .call { callee := .builtin .append, args := #[s, x], argTypes := #[28, 28] })
  (w:World) (base:Nat) (v:Value) (n:Nat) (xs:List Value) (hs:a.eval s=v) (hown:w.ownsRow base 78 1 v n xs) (g0:Nat) (u:Value) (hu:u.oneCell'=true) (hx:a.eval x=.slice (some ⟨g0,0,none⟩) 1 1) (hc:w.cell? ⟨g0,0,none⟩=some u) (hn:n≤1073741824) (hbase:base≤w.heap.size)
  (h:∀ g cap w',w'.ownsRow base 78 1 (.slice (some ⟨g,0,none⟩) (n+1) cap) (n+1) (xs++[u])→w.grownBy w' v.ownBlock→(v.ownBlock=some g∨w.heap.size≤g)→g < w'.heap.size→K (a.put o.dst (.slice (some ⟨g,0,none⟩) (n+1) cap)) w'):if Region.wanted o (yielded ops a.tmps)=true then Oper.wp Try.prog o a w K Q else E:=by
 have hw:Region.wanted o (yielded ops a.tmps)=true:=by simp [Region.wanted,hgd]
 rw [if_pos hw]
 exact wp_rowW s x ho base v n xs hs hown g0 u hu hx hc hn hbase h
theorem app_rowW {ops : Array Oper} {rest : List Oper} {o : Oper} {a : Act} {Q : Exit → Act → World → Prop} (hgd : o.guard = none) (s x : Operand) (ho : o.op = .call { callee := .builtin .append, args := #[s, x], argTypes := #[28, 28] })
  (w:World) (base:Nat) (v:Value) (n:Nat) (xs:List Value) (hs:a.eval s=v) (hown:w.ownsRow base 78 1 v n xs) (g0:Nat) (u:Value) (hu:u.oneCell'=true) (hx:a.eval x=.slice (some ⟨g0,0,none⟩) 1 1) (hc:w.cell? ⟨g0,0,none⟩=some u) (hn:n≤1073741824) (hbase:base≤w.heap.size)
  (h:∀ g cap w',w'.ownsRow base 78 1 (.slice (some ⟨g,0,none⟩) (n+1) cap) (n+1) (xs++[u])→w.grownBy w' v.ownBlock→(v.ownBlock=some g∨w.heap.size≤g)→g < w'.heap.size→wpList Try.prog ops Q rest (a.put o.dst (.slice (some ⟨g,0,none⟩) (n+1) cap)) w'):wpList Try.prog ops Q (o::rest) a w:=
 wpList_plain hgd fun _ hK=>wp_rowW s x ho base v n xs hs hown g0 u hu hx hc hn hbase fun g cap w' h1 h2 h3 h4=>hK _ _ (h g cap w' h1 h2 h3 h4)
end
section
set_option linter.unusedSimpArgs false
set_option linter.unusedVariables false
set_option maxRecDepth 100000
open Go.RowKit
def flatV:List VS→List WD→List Value
 | x::r,y::t=>.int .i64 y.v::.slice x.s x.n x.c::flatV r t
 | _,_=>[]
theorem flatV_len:∀ (vs:List VS) (l:List WD),vs.length=l.length→(flatV vs l).length=vs.length * 2
 | [],[],_=>rfl
 | x::r,y::t,h=>by
  have:=flatV_len r t (by simpa using h)
  simp [flatV,this]
  omega
 | [],_::_,h=>by simp at h
 | _::_,[],h=>by simp at h
theorem flatV_at:∀ (vs:List VS) (l:List WD) (i:Nat) (x:VS) (y:WD),vs[i]? =some x→l[i]? =some y→(flatV vs l)[i * 2]? =some (.int .i64 y.v)∧(flatV vs l)[i * 2+1]? =some (.slice x.s x.n x.c)
 | [],_,i,x,y,h,_=>by simp at h
 | _::_,[],i,x,y,_,h=>by simp at h
 | a::r,b::t,0,x,y,h,h'=>by
  simp at h h'
  subst h h'
  exact ⟨rfl,rfl⟩
 | a::r,b::t,i+1,x,y,h,h'=>by
  have e:=flatV_at r t i x y (by simpa using h) (by simpa using h')
  have e0:(i+1) * 2=i * 2+2:=by omega
  rw [e0]
  exact e
theorem flatV_app (x:VS) (y:WD):∀ (vs:List VS) (l:List WD),vs.length=l.length→flatV (vs++[x]) (l++[y])=flatV vs l++[.int .i64 y.v,.slice x.s x.n x.c]
 | [],[],_=>rfl
 | a::r,b::t,h=>by
  have:=flatV_app x y r t (by simpa using h)
  simp [flatV,this]
 | [],_::_,h=>by simp at h
 | _::_,[],h=>by simp at h
def TyI (w:World) (b:Nat):Prop:=∃ cs f,w.heap[b]? =some (.cells cs 3 f)
def vsA:List VS→List Addr
 | []=>[]
 | x::r=>vAs x++vsA r
theorem mem_vsA {a:Addr}:∀ {vs:List VS},a∈vsA vs↔∃ x∈vs,a∈vAs x
 | []=>by simp [vsA]
 | y::r=>by simp [vsA,mem_vsA (vs:=r)]
theorem vsA_app (x:VS):∀ (vs:List VS),vsA (vs++[x])=vsA vs++vAs x
 | []=>by simp [vsA]
 | y::r=>by simp [vsA,vsA_app x r]
structure ORow (w:World) (B:Nat) (r:RS) (l:List WD):Prop where
 n:r.vs.length=l.length
 own:w.ownsRow B 81 2 r.val r.vs.length (flatV r.vs l)
 v:∀ (i:Nat) (x:VS) (y:WD),r.vs[i]? =some x→l[i]? =some y→VO w B w.heap.size x y.vw
 vt:∀ a∈vsA r.vs,TyI w a.block
 vd:(vsA r.vs).Nodup
theorem rAs_nodup {g:Nat}:∀ (vs:List VS) (k:Nat),(∀ a∈vsA vs,a.block≠g)→(vsA vs).Nodup→(rAs (some ⟨g,0,none⟩) vs k).Nodup
 | [],k,_,_=>by simp [rAs]
 | x::r,k,h,hd=>by
  rw [vsA] at hd
  obtain ⟨d1,d2,d3⟩:=List.nodup_append.1 hd
  have ih:=rAs_nodup (g:=g) r (k+1) (fun a ha=>h a (by simp [vsA,ha])) d2
  rw [rAs]
  refine List.nodup_cons.2 ⟨fun hm=>?_,List.nodup_append.2 ⟨d1,ih,fun a ha b hb e=>?_⟩⟩
  ·rcases List.mem_append.1 hm with hm | hm
   ·exact h _ (by rw [vsA];exact List.mem_append_left _ hm) rfl
   ·rcases mem_rAs.1 hm with ⟨i,hi',e⟩ | ⟨x',hx',hax⟩
    ·simp [adr] at e;omega
    ·exact h _ (by rw [vsA];exact List.mem_append_right _ (mem_vsA.2 ⟨x',hx',hax⟩)) rfl
  ·subst e
   rcases mem_rAs.1 hb with ⟨i,hi',e⟩ | ⟨x',hx',hax⟩
   ·exact h a (by rw [vsA];exact List.mem_append_left _ ha) (by rw [e];rfl)
   ·exact d3 a ha a (mem_vsA.2 ⟨x',hx',hax⟩) rfl
theorem ORow.blkT {w:World} {B:Nat} {r:RS} {l:List WD} (h:ORow w B r l) {k:Nat} (hk:r.val.ownBlock=some k):∃ cs,w.heap[k]? =some (.cells cs 81 (0,0)):=by
 rcases h.own.2 with ⟨e,-⟩ | ⟨g,cap,cur,e,-,c,-⟩
 ·rw [e] at hk;cases hk
 ·rw [e] at hk
  injection hk with hk
  have hk:g=k:=hk
  subst hk
  exact ⟨_,c⟩
theorem ORow.sepV {w:World} {B:Nat} {r:RS} {l:List WD} (h:ORow w B r l) {k:Nat} (hk:r.val.ownBlock=some k) {a:Addr} (ha:TyI w a.block):a.block≠k:=by
 obtain ⟨cs,h1⟩:=h.blkT hk
 obtain ⟨cs',f,h2⟩:=ha
 intro e
 rw [e,h1] at h2
 injection h2 with h2
 injection h2 with _ h2
 exact absurd h2 (by decide)
theorem ORow.ro {w:World} {B:Nat} {r:RS} {l:List WD} (h:ORow w B r l):RO w B w.heap.size r l:=by
 refine ⟨h.n,?_,h.v,fun x hx a ha g o e=>?_,?_⟩
 ·rcases Nat.eq_zero_or_pos r.vs.length with h0 | hpos
  ·exact .inl (List.length_eq_zero_iff.1 (by have:=h.n;omega))
  ·obtain ⟨g,cap,e,-⟩:=World.ownsRow.form h.own hpos
   have hlt:=World.ownsRow.lt h.own g (by rw [e];rfl)
   have e2:r.s=some ⟨g,0,none⟩:=by unfold RS.val at e;injection e with e
   have e3:r.c=cap:=by unfold RS.val at e;injection e
   refine .inr ⟨g,0,e2,hlt.1,hlt.2,fun i x y hx hy=>?_⟩
   have hi':=(List.getElem?_eq_some_iff.1 hx).1
   have ho:w.ownsRow B 81 2 (.slice (some ⟨g,0,none⟩) r.vs.length cap) r.vs.length (flatV r.vs l):=by rw [← e];exact h.own
   obtain ⟨f1,f2⟩:=flatV_at r.vs l i x y hx hy
   rw [Nat.zero_add]
   exact ⟨(World.ownsRow.cellAt ho (i * 2) (by omega)).trans f1,World.ownsRow.frozenAt ho _,(World.ownsRow.cellAt ho (i * 2+1) (by omega)).trans f2⟩
 ·exact h.sepV (k:=g) (by unfold RS.val;rw [e];rfl) (h.vt a (mem_vsA.2 ⟨x,hx,ha⟩))
 ·rcases Nat.eq_zero_or_pos r.vs.length with h0 | hpos
  ·rw [List.length_eq_zero_iff.1 h0];simp [rAs]
  ·obtain ⟨g,cap,e,-⟩:=World.ownsRow.form h.own hpos
   have e2:r.s=some ⟨g,0,none⟩:=by unfold RS.val at e;injection e with e
   rw [e2]
   exact rAs_nodup r.vs 0 (fun a ha=>h.sepV (k:=g) (by rw [e];rfl) (h.vt a ha)) h.vd
theorem ORow.blk {w:World} {B:Nat} {r:RS} {l:List WD} (h:ORow w B r l) {a:Addr} (ha:a∈vsA r.vs):B≤a.block∧a.block < w.heap.size:=by
 obtain ⟨x,hx,hax⟩:=mem_vsA.1 ha
 exact h.ro.blk (mem_rAs.2 (.inr ⟨x,hx,hax⟩))
theorem ORow.kept {w w':World} {B:Nat} {r:RS} {l:List WD} (h:ORow w B r l) (h1:∀ k,r.val.ownBlock=some k→w'.heap[k]? =w.heap[k]?) (h2:∀ a∈vsA r.vs,w'.heap[a.block]? =w.heap[a.block]?) (hs:w.heap.size≤w'.heap.size):ORow w' B r l:=by
 refine ⟨h.n,ownKeep' h.own h1,fun i x y hx hy=>?_,fun a ha=>?_,h.vd⟩
 ·have hv:=h.v i x y hx hy
  refine ⟨hv.n,?_⟩
  rcases hv.c with h0 | ⟨g,o,es,b1,b2,hc⟩
  ·exact .inl h0
  ·refine .inr ⟨g,o,es,b1,by omega,fun j hj=>?_⟩
   have hne:w'.heap[g]? =w.heap[g]? :=by
    have:=h2 (adr x.s j) (mem_vsA.2 ⟨x,List.mem_of_getElem? hx,mem_vAs.2 ⟨j,by rw [hv.n];exact hj,rfl⟩⟩)
    rw [es] at this
    exact this
   exact ⟨(World.cell?_of_block (w:=w) hne).trans (hc j hj).1,(World.frozen?_of_block (w:=w) hne).trans (hc j hj).2⟩
 ·obtain ⟨cs,f,e⟩:=h.vt a ha
  exact ⟨cs,f,(h2 a ha).trans e⟩
theorem ORow.below {w w':World} {B:Nat} {r:RS} {l:List WD} (h:ORow w B r l) (hb:Below w.heap.size w w'):ORow w' B r l:=
 h.kept (fun k e=>hb.block k (World.ownsRow.lt h.own _ e).2) (fun a ha=>hb.block _ (h.blk ha).2) hb.size
theorem ORow.low {w:World} {B B':Nat} {r:RS} {l:List WD} (h:ORow w B r l) (hb:B'≤B):ORow w B' r l:=
 ⟨h.n,ownLow' h.own hb,fun i x y hx hy=>(h.v i x y hx hy).mono hb (Nat.le_refl _),h.vt,h.vd⟩
/- a row that append has grown by one write -/
theorem ORow.push {w w2 : World} {B g cap : Nat} {r : RS} {l : List WD} (x : VS) (y : WD) (h : ORow w B r l) (hx : VO w B w.heap.size x y.vw) (hxt : ∀ a ∈ vAs x, TyI w a.block) (hxd : (vAs x).Nodup) (hd : ∀ a ∈ vsA r.vs, a ∉ vAs x)
  (h2:w2.ownsRow B 81 2 (.slice (some ⟨g,0,none⟩) (r.vs.length+1) cap) (r.vs.length+1) (flatV r.vs l++[.int .i64 y.v,.slice x.s x.n x.c])) (hg:w.grownBy w2 r.val.ownBlock):ORow w2 B ⟨some ⟨g,0,none⟩,cap,r.vs++[x]⟩ (l++[y]):=by
 have hn:=h.n
 have kp:∀ a:Addr,a.block < w.heap.size→TyI w a.block→w2.heap[a.block]? =w.heap[a.block]? :=fun a ha ht=>hg.block _ ha (fun e=>h.sepV (k:=a.block) e.symm ht rfl)
 have hv2:∀ (x':VS) (l':List Int),VO w B w.heap.size x' l'→(∀ a∈vAs x',TyI w a.block)→VO w2 B w2.heap.size x' l':=fun x' l' hv ht=>by
  refine ⟨hv.n,?_⟩
  rcases hv.c with h0 | ⟨g',o,es,b1,b2,hc⟩
  ·exact .inl h0
  ·refine .inr ⟨g',o,es,b1,by have:=hg.size;omega,fun j hj=>?_⟩
   have hne:w2.heap[g']? =w.heap[g']? :=by
    have hm:adr x'.s j∈vAs x':=mem_vAs.2 ⟨j,by rw [hv.n];exact hj,rfl⟩
    have:=kp (adr x'.s j) (by rw [es];exact b2) (ht _ hm)
    rw [es] at this
    exact this
   exact ⟨(World.cell?_of_block (w:=w) hne).trans (hc j hj).1,(World.frozen?_of_block (w:=w) hne).trans (hc j hj).2⟩
 refine ⟨by simp [hn],?_,fun i x1 y1 e1 e2=>?_,fun a ha=>?_,?_⟩
 ·show w2.ownsRow B 81 2 (.slice (some ⟨g,0,none⟩) (r.vs++[x]).length cap) (r.vs++[x]).length (flatV (r.vs++[x]) (l++[y]))
  rw [flatV_app x y r.vs l hn]
  simpa using h2
 ·rcases getElem?_push e1 with e1 | ⟨i1,rfl⟩
  ·rcases getElem?_push e2 with e2 | ⟨i2,rfl⟩
   ·exact hv2 x1 y1.vw (h.v i x1 y1 e1 e2) (fun a ha=>h.vt a (mem_vsA.2 ⟨x1,List.mem_of_getElem? e1,ha⟩))
   ·have:=(List.getElem?_eq_some_iff.1 e1).1;omega
  ·rcases getElem?_push e2 with e2 | ⟨i2,rfl⟩
   ·have:=(List.getElem?_eq_some_iff.1 e2).1;omega
   ·exact hv2 x1 y1.vw hx hxt
 ·rw [vsA_app] at ha
  rcases List.mem_append.1 ha with ha | ha
  ·obtain ⟨cs,f,e⟩:=h.vt a ha
   exact ⟨cs,f,(kp a (h.blk ha).2 (h.vt a ha)).trans e⟩
  ·obtain ⟨cs,f,e⟩:=hxt a ha
   exact ⟨cs,f,(kp a (hx.blk ha).2 (hxt a ha)).trans e⟩
 ·rw [vsA_app]
  exact List.nodup_append.2 ⟨h.vd,hxd,fun a ha b hb e=>hd a ha (by rw [e];exact hb)⟩
structure OW (w:World) (B:Nat) (v:Value) (S:List RS) (m:List (List WD)):Prop where
 n:S.length=m.length
 row:w.ownsRow B 78 1 v S.length (S.map RS.val)
 r:∀ (i:Nat) (r:RS) (l:List WD),S[i]? =some r→m[i]? =some l→ORow w B r l
 d:(mAs S).Nodup
theorem rows_blkT {w:World} {B n:Nat} {v:Value} {xs:List Value} (h:w.ownsRow B 78 1 v n xs) {k:Nat} (hk:v.ownBlock=some k):∃ cs,w.heap[k]? =some (.cells cs 78 (0,0)):=by
 rcases h.2 with ⟨e,-⟩ | ⟨g,cap,cur,e,-,c,-⟩
 ·rw [e] at hk;cases hk
 ·rw [e] at hk
  injection hk with hk
  have hk:g=k:=hk
  subst hk
  exact ⟨_,c⟩
theorem ORow.sepO {w:World} {B:Nat} {r:RS} {l:List WD} (h:ORow w B r l) {a:Addr} (ha:a∈rAs r.s r.vs 0):∃ cs t f,w.heap[a.block]? =some (.cells cs t f)∧t≠78:=by
 rcases mem_rAs.1 ha with ⟨i,hi',e⟩ | ⟨x,hx,hax⟩
 ·obtain ⟨g,cap,ev,-⟩:=World.ownsRow.form h.own (by omega)
  obtain ⟨cs,hc⟩:=h.blkT (k:=g) (by rw [ev];rfl)
  have e2:r.s=some ⟨g,0,none⟩:=by unfold RS.val at ev;injection ev with ev
  rw [e,e2]
  exact ⟨cs,_,_,hc,by decide⟩
 ·obtain ⟨cs,f,e⟩:=h.vt a (mem_vsA.2 ⟨x,hx,hax⟩)
  exact ⟨cs,_,f,e,by decide⟩
theorem OW.om {w:World} {B:Nat} {v:Value} {S:List RS} {m:List (List WD)} (h:OW w B v S m):OM w B v S m:=by
 refine ⟨h.n,h.row,fun i r l hr hl=>(h.r i r l hr hl).ro,h.d,fun a ha e=>?_⟩
 obtain ⟨r,hr,har⟩:=mem_mAs.1 ha
 obtain ⟨i,hi',er⟩:=List.getElem_of_mem hr
 have hl:i < m.length:=by have:=h.n;omega
 obtain ⟨cs,t,f,h1,h2⟩:=(h.r i r m[i] (by rw [List.getElem?_eq_getElem hi',er]) (List.getElem?_eq_getElem hl)).sepO har
 obtain ⟨cs',h3⟩:=rows_blkT h.row e
 rw [h1] at h3
 injection h3 with h3
 injection h3 with _ h3
 exact h2 h3
theorem OW.nil (w:World) (B:Nat):OW w B (.slice none 0 0) [] []:=⟨rfl,World.ownsRow_nil _ _ _ _,fun i r l h=>by simp at h,by simp [mAs]⟩
theorem OW.kept {w w':World} {B:Nat} {v:Value} {S:List RS} {m:List (List WD)} (h:OW w B v S m) (hb:∀ k,B≤k→k < w.heap.size→w'.heap[k]? =w.heap[k]?) (hs:w.heap.size≤w'.heap.size):OW w' B v S m:=
 ⟨h.n,ownKeep' h.row (fun k e=>hb k (World.ownsRow.lt h.row _ e).1 (World.ownsRow.lt h.row _ e).2),fun i r l hr hl=>by
  have q:=h.r i r l hr hl
  exact q.kept (fun k e=>hb k (World.ownsRow.lt q.own _ e).1 (World.ownsRow.lt q.own _ e).2) (fun a ha=>hb _ (q.blk ha).1 (q.blk ha).2) hs,h.d⟩
theorem OW.below {w w':World} {B:Nat} {v:Value} {S:List RS} {m:List (List WD)} (h:OW w B v S m) (hb:Below w.heap.size w w'):OW w' B v S m:=h.kept (fun k _ hk=>hb.block k hk) hb.size
end
section
set_option linter.unusedSimpArgs false
set_option linter.unusedVariables false
set_option maxRecDepth 100000
open Go.RowKit
end
section
set_option linter.unusedSimpArgs false
set_option linter.unusedVariables false
set_option maxRecDepth 100000
open Go.RowKit
theorem OW.low {w:World} {B B':Nat} {v:Value} {S:List RS} {m:List (List WD)} (h:OW w B v S m) (hb:B'≤B):OW w B' v S m:=
 ⟨h.n,ownLow' h.row hb,fun i r l hr hl=>(h.r i r l hr hl).low hb,h.d⟩
end
end Go.Proofs.Ytkhjhibigldcgaa
