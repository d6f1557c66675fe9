/- Views: what the program and the specification make of rows of integers (copied, cut, learn, knows, Join, Knows). Conditions: at most 2^20 + 1 integers a row. CodeOk of the program, at every list of at most 1048576 steps. -/
import Derived.Test.YtlbeploopclegaaGreatPG00
import Derived.Test.YtlbeploopclegaaGreatPG01
import Derived.Test.YtlbeploopclegaaGreatPG06
import Derived.Laws.CopyOwn
import Derived.Test.YtlbeploopclegaaGreatPC7Ok
import Derived.Test.YtlbeploopclegaaGreatPC7Leaf
namespace Go.Proofs.YtlbeploopclegaaGreat
section
set_option linter.unusedSimpArgs false
set_option linter.unusedVariables false
set_option maxRecDepth 100000
open Go.RowKit
def mx (a b:Int):Int:=if a < b then b else a
def learnL:List Int→List Int→List Int
 | [],_=>[]
 | a::l,[]=>a::l
 | a::l,b::r=>mx a b::learnL l r
def joinL (a b:List Int):List Int:=List.zipWith mx a b
theorem learn_len:∀ (l r:List Int),(learnL l r).length=l.length
 | [],r=>by cases r<;>rfl
 | a::l,[]=>rfl
 | a::l,b::r=>by simp [learnL,learn_len l r]
theorem learn_nil:∀ l:List Int,learnL l []=l
 | []=>rfl
 | a::l=>rfl
theorem learn_at:∀ (k:Nat) (l r:List Int),k < l.length→(learnL l (r.take k)).getD k 0=l.getD k 0
 | 0,a::l,r,_=>by rw [List.take_zero,learn_nil]
 | k+1,a::l,[],_=>by rw [List.take_nil,learn_nil]
 | k+1,a::l,b::r,h=>by simpa [learnL] using learn_at k l r (by simpa using h)
theorem learn_step:∀ (k:Nat) (l r:List Int),k < l.length→k < r.length→learnL l (r.take (k+1))=(learnL l (r.take k)).set k (mx (l.getD k 0) (r.getD k 0))
 | 0,a::l,b::r,_,_=>by simp [learnL,learn_nil]
 | k+1,a::l,b::r,h,h'=>by simpa [learnL] using learn_step k l r (by simpa using h) (by simpa using h')
theorem learn_long:∀ (l r:List Int),l.length≤r.length→learnL l (r.take l.length)=learnL l r
 | [],r,_=>by simp [learnL]
 | a::l,[],h=>by simp at h
 | a::l,b::r,h=>by simpa [learnL] using learn_long l r (by simpa using h)
theorem learn_join:∀ (l r:List Int),l.length≤r.length→learnL l r=joinL l r
 | [],r,_=>by simp [learnL,joinL]
 | a::l,[],h=>by simp at h
 | a::l,b::r,h=>by simp [learnL,joinL,learn_join l r (by simpa using h)]
theorem join_take:∀ (l r:List Int),joinL (l.take (min l.length r.length)) r=joinL l r
 | [],r=>by simp [joinL]
 | a::l,[]=>by simp [joinL]
 | a::l,b::r=>by
  have h:=join_take l r
  simp only [joinL] at h ⊢
  rw [List.length_cons,List.length_cons,Nat.add_min_add_right,List.take_succ_cons,List.zipWith_cons_cons,List.zipWith_cons_cons,h]
theorem join_cut (l r:List Int) (h:r.length≤l.length):joinL (l.take r.length) r=joinL l r:=by
 have:=join_take l r
 rwa [Nat.min_eq_right h] at this
theorem join_cut' (l r:List Int) (h:l.length≤r.length):joinL l (r.take l.length)=joinL l r:=by
 simp only [joinL]
 apply List.ext_getElem? fun i=>?_
 rw [List.getElem?_zipWith,List.getElem?_zipWith]
 by_cases hi:i < l.length
 ·rw [List.getElem?_take,if_pos hi]
 ·rw [List.getElem?_eq_none (show l.length≤i by omega)]
theorem join_len (l r:List Int):(joinL l r).length=min l.length r.length:=by simp [joinL]
theorem join_step (k:Nat) (l r:List Int) (h:k < l.length) (h':k < r.length):joinL (l.take (k+1)) (r.take (k+1))=joinL (l.take k) (r.take k)++[mx (l.getD k 0) (r.getD k 0)]:=by
 rw [List.take_add_one,List.take_add_one,List.getElem?_eq_getElem h,List.getElem?_eq_getElem h']
 simp only [joinL,Option.toList_some]
 rw [List.zipWith_append (by simp;omega)]
 simp [List.getD_eq_getElem?_getD,h,h']
theorem mx_l1 (a b:Int):(if a > b then a else b)=mx a b:=by unfold mx;split<;>split<;>omega
theorem l1Max_any (a b:Int) (w:World):Calls Tryz.prog 130 #[.int .i64 a,.int .i64 b] w fun e w'=>e=.returned (.int .i64 (mx a b))∧w'=w:=by
 rw [← mx_l1]
 by_cases h:a > b
 ·rw [if_pos h]
  go_enter Tryz.func130,Tryz.ntmps130
  go_wp2
  go_ret
  exact ⟨rfl,rfl⟩
 ·rw [if_neg h]
  go_enter Tryz.func130,Tryz.ntmps130
  go_wp2
  go_ret
  exact ⟨rfl,rfl⟩
theorem mkView (n:Nat) (hn:n≤1048577) (w:World):(Instr.makeSlice 177 (.int .i64 (n:Int)) (.int .i64 (n:Int))).run Tryz.prog w=.ok (.slice (some ⟨w.heap.size,0,none⟩) n n) (w.alloc (.cells (madeCells #[.int .i64 0] (n * 1)) 3)):=by
 have h:=run_make (P:=Tryz.prog) w 177 3 _ (.int .i64 0) Tryz.underlying177 rfl rfl .i64 .i64 n n (by omega) (Int.le_refl _) (by show (8:Int) * _≤_;omega) (by omega)
 have e:(Value.int .i64 0).cells=#[.int .i64 0]:=rfl
 have e':∀ t,Tryz.prog.info? 3=some t→t.size=1:=by intro t h;cases h;rfl
 rw [e,e' _ rfl] at h
 simpa using h
theorem cells_row {w:World} {g o:Nat} {l:List Int} (hc:∀ i,i < l.length→w.cell? ⟨g,o+i,none⟩=some (.int .i64 (l.getD i 0))):∀ j u,(l.map (Value.int .i64))[j]? =some u→w.cell? (Addr.add ⟨g,o,none⟩ j)=some u:=by
 intro j u hu
 rw [List.getElem?_map] at hu
 by_cases hj:j < l.length
 ·have e:(Addr.add ⟨g,o,none⟩ j)=⟨g,o+j,none⟩:=by
   by_cases h:j=0
   ·subst h;rfl
   ·simp [Addr.add,h]
  rw [e,hc j hj]
  simpa [List.getD_eq_getElem?_getD,List.getElem?_eq_getElem hj] using hu
 ·rw [List.getElem?_eq_none (by omega)] at hu
  simp at hu
theorem ownN_mk {w:World} {base g:Nat} {l:List Int} {cs:List Value} (hb:base≤g) (hl:l.length≤maxLen) (h:w.heap[g]? =some (.cells cs.toArray 3 (0,0))) (e:cs=l.map (Value.int .i64)):OwnN w base (.slice (some ⟨g,0,none⟩) l.length l.length) l:=by
 subst e
 exact ⟨by simp,.inr ⟨g,l.length,_,rfl,hb,h,Nat.le_refl _,hl,by simp,by simp [List.take_of_length_le]⟩⟩
set_option maxHeartbeats 1000000 in
theorem copied_any (s : Option Addr) (c lo hi : Nat) (l : List Int) (w : World) (h : IntsR w lo hi s l) (hB : hi ≤ w.heap.size) (hl : l.length ≤ 1048577) :
  Calls Tryz.prog 120 #[.slice s l.length c] w fun e w'=>e=.returned (.slice (some ⟨w.heap.size,0,none⟩) l.length l.length)∧OwnN w' w.heap.size (.slice (some ⟨w.heap.size,0,none⟩) l.length l.length) l∧Below w.heap.size w w':=by
 have hmk:=mkView l.length hl
 have HC:Hid (IntsR w lo hi s l):=h
 clear h
 go_enter Tryz.func120,Tryz.ntmps120
 go_wp2_with (refine wpList_copy_splice rfl _ _ 177 177 rfl 3 Tryz.underlying177 rfl _ s _ _ _ _ rfl rfl w.heap.size 0 (madeCells #[.int .i64 0] l.length).toList 3 (by rw [Array.toArray_toList];exact heap_alloc_new _ _) (l.map (Value.int .i64)) (by simp) (fun hp=>⟨rfl,by obtain ⟨g,off,e,h1,h2,h3⟩:=HC.out.pos (by simpa using hp);exact ⟨_,e,cells_row fun i hi=>(((Below.refl _ _).alloc (Nat.le_refl _) _).cell (p:=⟨g,off+i,none⟩) (by show g < w.heap.size;omega)).trans (h3 i hi)⟩⟩) (by simp [size_madeCells]) (fun v hv=>by obtain ⟨z,-,rfl⟩:=List.mem_map.1 hv;rfl) w.heap.size w ((Below.refl _ _).alloc (Nat.le_refl _) _) (Nat.le_refl _) ?_;intro w2 HG2 hB2)
 go_ret
 refine ⟨rfl,ownN_mk (Nat.le_refl _) (by unfold maxLen;omega) HG2.out ?_,hB2⟩
 simp [splice,size_madeCells]
set_option maxHeartbeats 2000000 in
theorem learn_any (base g cap : Nat) (l : List Int) (s' : Option Addr) (c' lo hi : Nat) (l' : List Int) (w : World) (h : OwnN w base (.slice (some ⟨g, 0, none⟩) l.length cap) l) (h' : IntsR w lo hi s' l') (hh : hi ≤ w.heap.size) (hav : ∀ g' o', s' = some ⟨g', o', none⟩ → 0 < l'.length → g' ≠ g) (hl : l.length ≤ 1048577) (hl' : l'.length ≤ 1048577) :
  Calls Tryz.prog 171 #[.slice (some ⟨g,0,none⟩) l.length cap,.slice s' l'.length c'] w fun e w'=>e=.returned (.tuple #[])∧OwnN w' base (.slice (some ⟨g,0,none⟩) l.length cap) (learnL l l')∧Exc g (g+1) w w'∧w'.heap.size=w.heap.size:=by
 have H:Hid (OwnN w base (.slice (some ⟨g,0,none⟩) l.length cap) l):=h
 have H':Hid (IntsR w lo hi s' l'):=h'
 clear h h'
 by_cases hc:l'.length < l.length
 ·have hlm:l'.length≤l.length:=by omega
  go_enter Tryz.func171,Tryz.ntmps171
  go_wp2
  go_loopw [4,10] (fun u i wr=>∃ k:Nat,k≤l'.length∧i=.int .i64 k∧OwnN wr base (.slice (some ⟨g,0,none⟩) l.length cap) (learnL l (l'.take k))∧Exc g (g+1) w wr∧wr.heap.size=w.heap.size) (fun _ i _=>l'.length - (intOf i).toNat)
  case atStart=>exact ⟨0,Nat.zero_le _,rfl,by rw [List.take_zero,learn_nil];exact H.out,⟨rfl,rfl,rfl,Nat.le_refl _,fun _ _ _=>rfl⟩,rfl⟩
  case round=>
   obtain ⟨k,hk,rfl,ho,hx,hz⟩:=hrel
   have HO:Hid (OwnN wr base (.slice (some ⟨g,0,none⟩) l.length cap) (learnL l (l'.take k))):=ho
   have HX:Hid (Exc g (g+1) w wr):=hx
   have HZ:Hid (wr.heap.size=w.heap.size):=hz
   clear ho hx hz
   by_cases hlt:k < l'.length
   ·have hk1:k < l.length:=by omega
    have hk2:k < l'.length:=by omega
    obtain ⟨g',o',e',q1,q2,q3⟩:=H'.out.pos (by omega)
    subst e'
    have hr:wr.ownsRow base 3 1 (.slice (some ⟨g,0,none⟩) l.length cap) l.length ((learnL l (l'.take k)).map (Value.int .i64)):=by have h:=HO.out;unfold OwnN at h;rw [learn_len] at h;exact h
    have hgw:=(World.ownsRow.lt H.out g rfl).2
    have e1:wr.cell? ⟨g,k,none⟩=some (.int .i64 (l.getD k 0)):=by
     rw [World.ownsRow.cellAt hr k (by omega),List.getElem?_map,← learn_at k l l' hk1,List.getD_eq_getElem?_getD,List.getElem?_eq_getElem (by rw [learn_len];omega)]
     rfl
    have e2:wr.cell? ⟨g',o'+k,none⟩=some (.int .i64 (l'.getD k 0)):=(World.cell?_of_block (w:=w) (HX.out.blk g' (by omega) (by have:=hav g' o' rfl (by omega);omega))).trans (q3 k hk2)
    have hfz:wr.frozen? ⟨g,k,none⟩=false:=World.ownsRow.frozenAt hr k
    have HRo:=(show Hid _ from hr)
    have ST:Hid (learnL l (l'.take (k+1))=(learnL l (l'.take k)).set k (mx (l.getD k 0) (l'.getD k 0))):=learn_step k l l' hk1 hk2
    generalize l.getD k 0=x at e1 ST
    generalize l'.getD k 0=y at e2 ST
    clear hr q3
    have b0:(0:Int)≤(k:Int):=by omega
    have b1:(k:Int) < (l.length:Int):=by omega
    have b2:(k:Int) < (l'.length:Int):=by omega
    obtain ⟨z,hz⟩:∃ z:Int,(if y > x then y else x)=z:=⟨_,rfl⟩
    have HZz:Hid (mx x y=z):=hz
    go_wp2
    go_region
    go_wp2
    go_roundw
    case rel=>
     have p5:=(World.ownsRow.stored HRo.out k (.int .i64 z)).1
     have e0:((learnL l (l'.take k)).map (Value.int .i64)).set k (.int .i64 z)=(learnL l (l'.take (k+1))).map (Value.int .i64):=by rw [ST.out,HZz.out,List.map_set]
     rw [e0] at p5
     refine ⟨k+1,by omega,by go_num,?_,?_,?_⟩
     ·unfold OwnN
      rw [learn_len]
      exact p5
     ·obtain ⟨x1,x2,x3,x4,x5⟩:=HX.out
      exact ⟨x1,x2,x3,by show w.heap.size≤(wr.setCell _ _).heap.size;simpa using x4,fun j hj hc=>(Below.heap_setCell _ _ _ j (fun e=>by have:j=g:=e;omega)).trans (x5 j hj hc)⟩
     ·show (wr.setCell _ _).heap.size=_
      simpa using HZ.out
    case measure=>simp [intOf];omega
   ·go_wp2
    go_end0
    have:k=l'.length:=by omega
    subst this
    have ho:=HO.out
    rw [List.take_length] at ho
    exact ⟨rfl,ho,HX.out,HZ.out⟩
 ·have hlm:l.length≤l'.length:=by omega
  go_enter Tryz.func171,Tryz.ntmps171
  go_wp2
  go_loopw [4,10] (fun u i wr=>∃ k:Nat,k≤l.length∧i=.int .i64 k∧OwnN wr base (.slice (some ⟨g,0,none⟩) l.length cap) (learnL l (l'.take k))∧Exc g (g+1) w wr∧wr.heap.size=w.heap.size) (fun _ i _=>l.length - (intOf i).toNat)
  case atStart=>exact ⟨0,Nat.zero_le _,rfl,by rw [List.take_zero,learn_nil];exact H.out,⟨rfl,rfl,rfl,Nat.le_refl _,fun _ _ _=>rfl⟩,rfl⟩
  case round=>
   obtain ⟨k,hk,rfl,ho,hx,hz⟩:=hrel
   have HO:Hid (OwnN wr base (.slice (some ⟨g,0,none⟩) l.length cap) (learnL l (l'.take k))):=ho
   have HX:Hid (Exc g (g+1) w wr):=hx
   have HZ:Hid (wr.heap.size=w.heap.size):=hz
   clear ho hx hz
   by_cases hlt:k < l.length
   ·have hk1:k < l.length:=by omega
    have hk2:k < l'.length:=by omega
    obtain ⟨g',o',e',q1,q2,q3⟩:=H'.out.pos (by omega)
    subst e'
    have hr:wr.ownsRow base 3 1 (.slice (some ⟨g,0,none⟩) l.length cap) l.length ((learnL l (l'.take k)).map (Value.int .i64)):=by have h:=HO.out;unfold OwnN at h;rw [learn_len] at h;exact h
    have hgw:=(World.ownsRow.lt H.out g rfl).2
    have e1:wr.cell? ⟨g,k,none⟩=some (.int .i64 (l.getD k 0)):=by
     rw [World.ownsRow.cellAt hr k (by omega),List.getElem?_map,← learn_at k l l' hk1,List.getD_eq_getElem?_getD,List.getElem?_eq_getElem (by rw [learn_len];omega)]
     rfl
    have e2:wr.cell? ⟨g',o'+k,none⟩=some (.int .i64 (l'.getD k 0)):=(World.cell?_of_block (w:=w) (HX.out.blk g' (by omega) (by have:=hav g' o' rfl (by omega);omega))).trans (q3 k hk2)
    have hfz:wr.frozen? ⟨g,k,none⟩=false:=World.ownsRow.frozenAt hr k
    have HRo:=(show Hid _ from hr)
    have ST:Hid (learnL l (l'.take (k+1))=(learnL l (l'.take k)).set k (mx (l.getD k 0) (l'.getD k 0))):=learn_step k l l' hk1 hk2
    generalize l.getD k 0=x at e1 ST
    generalize l'.getD k 0=y at e2 ST
    clear hr q3
    have b0:(0:Int)≤(k:Int):=by omega
    have b1:(k:Int) < (l.length:Int):=by omega
    have b2:(k:Int) < (l'.length:Int):=by omega
    obtain ⟨z,hz⟩:∃ z:Int,(if y > x then y else x)=z:=⟨_,rfl⟩
    have HZz:Hid (mx x y=z):=hz
    go_wp2
    go_region
    go_wp2
    go_roundw
    case rel=>
     have p5:=(World.ownsRow.stored HRo.out k (.int .i64 z)).1
     have e0:((learnL l (l'.take k)).map (Value.int .i64)).set k (.int .i64 z)=(learnL l (l'.take (k+1))).map (Value.int .i64):=by rw [ST.out,HZz.out,List.map_set]
     rw [e0] at p5
     refine ⟨k+1,by omega,by go_num,?_,?_,?_⟩
     ·unfold OwnN
      rw [learn_len]
      exact p5
     ·obtain ⟨x1,x2,x3,x4,x5⟩:=HX.out
      exact ⟨x1,x2,x3,by show w.heap.size≤(wr.setCell _ _).heap.size;simpa using x4,fun j hj hc=>(Below.heap_setCell _ _ _ j (fun e=>by have:j=g:=e;omega)).trans (x5 j hj hc)⟩
     ·show (wr.setCell _ _).heap.size=_
      simpa using HZ.out
    case measure=>simp [intOf];omega
   ·go_wp2
    go_end0
    have:k=l.length:=by omega
    subst this
    have ho:=HO.out
    have e9:=learn_long l l' hlm;rw [e9] at ho
    exact ⟨rfl,ho,HX.out,HZ.out⟩
theorem cut_any (s:Option Addr) (n c k:Nat) (w:World) (hk:k≤c):Calls Tryz.prog 136 #[.slice s n c,.int .i64 k] w fun e w'=>e=.returned (.slice s k k)∧w'=w:=by
 have h0:(0:Int)≤(k:Int):=by omega
 have h1:(k:Int)≤(c:Int):=by omega
 go_enter Tryz.func136,Tryz.ntmps136
 go_wp2
 go_ret
 exact ⟨rfl,rfl⟩
set_option maxHeartbeats 2000000 in
theorem specJoin_any (s s' : Option Addr) (c c' lo hi lo' hi' : Nat) (l l' : List Int) (w : World) (h : IntsR w lo hi s l) (h' : IntsR w lo' hi' s' l') (hl : l.length ≤ 1048577) (hl' : l'.length ≤ 1048577) (hB : hi ≤ w.heap.size) (hB' : hi' ≤ w.heap.size) :
  Calls Tryz.prog 135 #[.slice s l.length c,.slice s' l'.length c'] w fun e w'=>∃ v,e=.returned v∧OwnN w' w.heap.size v (joinL l l')∧Below w.heap.size w w':=by
 have H:Hid (IntsR w lo hi s l):=h
 have H':Hid (IntsR w lo' hi' s' l'):=h'
 clear h h'
 go_enter Tryz.func135,Tryz.ntmps135
 go_wp2
 go_loopw [5,6] (fun u i wr=>∃ k:Nat,k≤l.length∧k≤l'.length∧i=.int .i64 k∧OwnN wr w.heap.size u (joinL (l.take k) (l'.take k))∧Below w.heap.size w wr) (fun _ i _=>l'.length - (intOf i).toNat)
 case atStart=>exact ⟨0,Nat.zero_le _,Nat.zero_le _,rfl,by simpa [joinL] using ownN_empty (Nat.le_refl _),(Below.refl _ _).alloc (Nat.le_refl _) _⟩
 case round=>
  obtain ⟨k,hk,hk',rfl,ho,hb⟩:=hrel
  have HO:Hid (OwnN wr w.heap.size u5 (joinL (l.take k) (l'.take k))):=ho
  have HB:Hid (Below w.heap.size w wr):=hb
  have hs:=hb.size
  clear ho hb
  by_cases hlt:k < l.length
  ·by_cases hlt':k < l'.length
   ·obtain ⟨g,o,e1,a1,a2,a3⟩:=H.out.pos (by omega)
    obtain ⟨g',o',e1',a1',a2',a3'⟩:=H'.out.pos (by omega)
    subst e1 e1'
    have e1:=(HB.out.cell (p:=⟨g,o+k,none⟩) (show g < _ by omega)).trans (a3 k hlt)
    have e2:=(HB.out.cell (p:=⟨g',o'+k,none⟩) (show g' < _ by omega)).trans (a3' k hlt')
    have ST:Hid (joinL (l.take (k+1)) (l'.take (k+1))=joinL (l.take k) (l'.take k)++[mx (l.getD k 0) (l'.getD k 0)]):=join_step k l l' hlt hlt'
    have TL:Hid ((joinL (l.take k) (l'.take k)).length=k):=by show (joinL (l.take k) (l'.take k)).length=k;rw [join_len];simp;omega
    clear a3 a3'
    generalize l.getD k 0=x at e1 ST
    generalize l'.getD k 0=y at e2 ST
    generalize joinL (l.take k) (l'.take k)=lk at HO ST TL
    generalize hz:mx x y=z at ST
    have HZ:Hid (mx x y=z):=hz
    clear hz
    have b0:(0:Int)≤(k:Int):=by omega
    have b1:(k:Int) < (l.length:Int):=by omega
    have b2:(k:Int) < (l'.length:Int):=by omega
    have gl:g < wr.heap.size:=by omega
    have gl':g' < wr.heap.size:=by omega
    go_wp2_with fail
    go_region_held3 (fun w'=>w'.cell? ⟨g,o+k,none⟩=some (.int .i64 x)∧w'.cell? ⟨g',o'+k,none⟩=some (.int .i64 y)) (go_keep) (first | (go_at_call 130;refine (l1Max_any x y _).mono ?_;rintro e w' ⟨rfl,rfl⟩;rw [HZ.out]) | (refine step_row rfl _ _ rfl _ w.heap.size u5 lk rfl (HO.out.alloc (.cells #[.int .i64 z] 3)) wr.heap.size 0 1 [z] rfl (fun i hi=>by simp at hi;subst hi;simp [go_sem]) (by simp) (by have:=TL.out;simp;omega) (by simp;omega) ?_;intro g1 cap1 w1 ho1 hb1 hg1 hg1';have t1:=(hb1.cell (p:=⟨g,o+k,none⟩) (show g < w.heap.size by omega)).trans ((show _=wr.cell? ⟨g,o+k,none⟩ by simp [go_sem,gl]).trans e1);have t2:=(hb1.cell (p:=⟨g',o'+k,none⟩) (show g' < w.heap.size by omega)).trans ((show _=wr.cell? ⟨g',o'+k,none⟩ by simp [go_sem,gl']).trans e2)))
    have HO1:Hid (OwnN w1 w.heap.size (.slice (some ⟨g1,0,none⟩) (lk.length+1) cap1) (lk++[z])):=ho1
    have HB1:Hid (Below w.heap.size w w1):=HB.out.trans ((show Below w.heap.size wr (wr.alloc (.cells #[.int .i64 z] 3)).drew from Below.drew ((Below.refl _ _).alloc hs _)).trans hb1)
    clear ho1 hb1 t1 t2
    go_wp2
    go_roundw
    case rel=>exact ⟨k+1,by omega,by omega,by go_num,by rw [ST.out];exact HO1.out,HB1.out⟩
    case measure=>simp [intOf];omega
   ·have e0:joinL (l.take k) (l'.take k)=joinL l l':=by
     have:k=l'.length:=by omega
     subst this
     rw [List.take_length]
     have:=join_cut l l' hk
     exact this
    go_wp2
    go_ret
    exact ⟨_,rfl,by have:=HO.out;rw [e0] at this;exact this,HB.out⟩
  ·have e0:joinL (l.take k) (l'.take k)=joinL l l':=by
    have:k=l.length:=by omega
    subst this
    rw [List.take_length]
    have:=join_cut' l l' hk'
    exact this
   go_wp2
   go_ret
   exact ⟨_,rfl,by have:=HO.out;rw [e0] at this;exact this,HB.out⟩
end
section
set_option linter.unusedSimpArgs false
set_option linter.unusedVariables false
set_option maxRecDepth 100000
open Go.RowKit
theorem endsCode_any (o r a b n:Int) (w:World):Calls Tryz.prog 112 #[.agg #[.int .i64 o,.int .i64 r,.int .i64 a,.int .i64 b,.int .i64 n]] w fun e w'=>e=.returned (.bool (Plain.endB o))∧Below w.heap.size w w':=by
 by_cases h1:o=10
 ·subst h1
  go_enter Tryz.func112,Tryz.ntmps112
  go_wp2
  go_ret
  exact ⟨rfl,(Below.refl _ _).alloc (Nat.le_refl _) _⟩
 have h2:(o==10)=false:=by simp [h1]
 by_cases h3:o=12
 ·subst h3
  go_enter Tryz.func112,Tryz.ntmps112
  go_wp2
  go_ret
  exact ⟨rfl,(Below.refl _ _).alloc (Nat.le_refl _) _⟩
 have h4:(o==12)=false:=by simp [h3]
 go_enter Tryz.func112,Tryz.ntmps112
 go_wp2
 go_ret
 exact ⟨ret_bool (by rw [Bool.eq_iff_iff];simp [Plain.endB,h1,h3]),(Below.refl _ _).alloc (Nat.le_refl _) _⟩
set_option maxRecDepth 100000 in
set_option maxHeartbeats 1000000 in
theorem implCode_some (g off c B : Nat) (l : List I5) (w : World) (hg : g < B) (hc : ∀ i, i < l.length → At5 w g (off + i * 5) (l.getD i z5)) (hB : B ≤ w.heap.size) (hl1 : 1 ≤ l.length) (hl : l.length ≤ 800) :
  Calls Tryz.prog 84 #[.slice (some ⟨g,off,none⟩) l.length c] w fun e w'=>e=.returned (.bool (codeB l))∧Below w.heap.size w w':=by
 have HC:Hid (∀ i,i < l.length→At5 w g (off+i * 5) (l.getD i z5)):=hc
 clear hc
 have q1:¬ (l.length:Int) < 1:=by omega
 have q2:¬ 800 < (l.length:Int):=by omega
 go_enter Tryz.func84,Tryz.ntmps84
 go_wp2
 go_loopw [15] (fun i wr=>∃ k:Nat,k≤l.length∧i=.int .i64 k∧Below w.heap.size w wr∧(∀ i,i < k→stX (l.getD i z5) l.length=true)) (fun i _=>l.length - (intOf i).toNat)
 case atStart=>exact ⟨0,Nat.zero_le _,rfl,Below.refl _ _,fun i hi=>absurd hi (Nat.not_lt_zero _)⟩
 case round=>
  obtain ⟨k,hk,rfl,hb,hd⟩:=hrel
  have HB:Hid (Below w.heap.size w wr):=hb
  have HD:Hid (∀ i,i < k→stX (l.getD i z5) l.length=true):=hd
  clear hb hd
  by_cases hlt:k < l.length
  ·obtain ⟨f0,f1,f2,f3,f4⟩:=(HC.out k hlt).keep HB.out (by omega)
   cases hv:stX (l.getD k z5) l.length
   ·have F:Hid (codeB l=false):=code_no hlt hv
    generalize l.getD k z5=x at f0 f1 f2 f3 f4 hv
    obtain ⟨xo,xr,xa,xb,xn⟩:=x
    have V:Hid (Plain.stepB xo xr xa xb xn l.length=false):=hv
    clear hv
    have b0:(0:Int)≤(k:Int):=by omega
    have b1:(k:Int) < (l.length:Int):=by omega
    go_wp2_with fail
    refine (stepOk_any _ _ _ _ _ _ _).mono ?_
    rintro e w1 ⟨rfl,hb1⟩
    rw [V.out]
    have hs1:=HB.out.size
    go_wp2
    go_ret
    exact ⟨by rw [F.out];rfl,(HB.out.alloc hs1 _).trans (hb1.mono (by simp;omega))⟩
   ·have HV:Hid (stX (l.getD k z5) l.length=true):=hv
    generalize l.getD k z5=x at f0 f1 f2 f3 f4 hv
    obtain ⟨xo,xr,xa,xb,xn⟩:=x
    have V:Hid (Plain.stepB xo xr xa xb xn l.length=true):=hv
    clear hv
    have b0:(0:Int)≤(k:Int):=by omega
    have b1:(k:Int) < (l.length:Int):=by omega
    go_wp2_with fail
    refine (stepOk_any _ _ _ _ _ _ _).mono ?_
    rintro e w1 ⟨rfl,hb1⟩
    rw [V.out]
    have hs1:=HB.out.size
    have HB1:Hid (Below w.heap.size w w1):=(HB.out.alloc hs1 _).trans (hb1.mono (by simp;omega))
    clear hb1
    go_wp2
    go_roundw
    case rel=>
     refine ⟨k+1,by omega,by go_num,HB1.out,?_⟩
     intro i hi
     by_cases e:i=k
     ·subst e;exact HV.out
     ·exact HD.out i (by omega)
    case measure=>simp [intOf];omega
  ·have:k=l.length:=by omega
   subst this
   have F:Hid (codeB l=lastB l):=by
    show _=_
    rw [code_all HD.out,decide_eq_true ⟨hl1,hl⟩]
    simp
   obtain ⟨f0,f1,f2,f3,f4⟩:=(HC.out (l.length - 1) (by omega)).keep HB.out (by omega)
   generalize hx:l.getD (l.length - 1) z5=x at f0 f1 f2 f3 f4
   have FX:Hid (lastB l=Plain.endB x.o):=by show _=_;unfold lastB;rw [hx]
   clear hx
   obtain ⟨xo,xr,xa,xb,xn⟩:=x
   have b0:(1:Int)≤(l.length:Int):=by omega
   have b1:(l.length:Int) - 1 < (l.length:Int):=by omega
   go_wp2_with fail
   refine (endsCode_any _ _ _ _ _ _).mono ?_
   rintro e w1 ⟨rfl,hb1⟩
   have hs1:=HB.out.size
   go_wp2
   go_ret
   exact ⟨ret_bool (by rw [F.out,FX.out]),HB.out.trans (hb1.mono hs1)⟩
theorem implCode_bad (s : Option Addr) (n c : Nat) (w : World) (hn : n ≤ 1048576) (h : n < 1 ∨ 800 < n) :
  Calls Tryz.prog 84 #[.slice s n c] w fun e w'=>e=.returned (.bool false)∧w'=w:=by
 by_cases h2:n < 1
 ·have q1:(n:Int) < 1:=by omega
  clear h h2
  go_enter Tryz.func84,Tryz.ntmps84
  go_wp2
  go_ret
  exact ⟨rfl,rfl⟩
 ·have q1:¬ (n:Int) < 1:=by omega
  have q2:800 < (n:Int):=by omega
  clear h h2
  go_enter Tryz.func84,Tryz.ntmps84
  go_wp2
  go_ret
  exact ⟨rfl,rfl⟩
theorem implCode_any (s : Option Addr) (c B : Nat) (l : List I5) (w : World) (h : InsB w B s l) (hB : B ≤ w.heap.size) (hl : l.length ≤ 1048576) :
  Calls Tryz.prog 84 #[.slice s l.length c] w fun e w'=>e=.returned (.bool (codeB l))∧Below w.heap.size w w':=by
 by_cases hd:1≤l.length∧l.length≤800
 ·obtain ⟨h2,h3⟩:=hd
  rcases h with rfl | ⟨g,off,rfl,hg,hc⟩
  ·simp at h2
  ·exact implCode_some g off c B l w hg hc hB h2 h3
 ·have F:codeB l=false:=by
   refine code_short ?_
   simp [Plain.inB]
   omega
  rw [F]
  refine (implCode_bad s l.length c w hl (by omega)).mono ?_
  rintro e w' ⟨rfl,rfl⟩
  exact ⟨rfl,Below.refl _ _⟩
end
end Go.Proofs.YtlbeploopclegaaGreat
