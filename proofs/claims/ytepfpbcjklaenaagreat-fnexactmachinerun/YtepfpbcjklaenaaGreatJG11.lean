/- Views: what the program and the specification make of rows of integers (copied, cut, learn, knows, Join, Knows). Conditions: at most 2^20 + 1 integers a row. CodeOk of the program, at every list of at most 1048576 steps. Code and cores held against their rules by the program. Conditions: they are counted. The notes and the cores of a machine held against their rules by the program. Conditions: they are counted. What Load is made of, in the program and in the specification. Conditions: memories that are counted, views of at most 2^20. -/
import Derived.Test.YtepfpbcjklaenaaGreatJG00
import Derived.Test.YtepfpbcjklaenaaGreatJG01
import Derived.Test.YtepfpbcjklaenaaGreatJG02
import Derived.Test.YtepfpbcjklaenaaGreatJG08
import Derived.Laws.CopyOwn
import Derived.Test.YtepfpbcjklaenaaGreatJG06
import Derived.Test.YtepfpbcjklaenaaGreatJG07
import Derived.Test.YtepfpbcjklaenaaGreatJG04
import Derived.Deep.RegionWith
import Derived.Test.YtepfpbcjklaenaaGreatJG10
namespace Go.Proofs.YtepfpbcjklaenaaGreat
section
set_option linter.unusedSimpArgs false
set_option linter.unusedVariables false
set_option maxRecDepth 100000
open Go.RowKit
def mx (a b:Int):Int:=if a < b then b else a
def learnL:List Int→List Int→List Int
 | [],_=>[]
 | a::l,[]=>a::l
 | a::l,b::r=>mx a b::learnL l r
def joinL (a b:List Int):List Int:=List.zipWith mx a b
theorem learn_len:∀ (l r:List Int),(learnL l r).length=l.length
 | [],r=>by cases r<;>rfl
 | a::l,[]=>rfl
 | a::l,b::r=>by simp [learnL,learn_len l r]
theorem learn_nil:∀ l:List Int,learnL l []=l
 | []=>rfl
 | a::l=>rfl
theorem learn_at:∀ (k:Nat) (l r:List Int),k < l.length→(learnL l (r.take k)).getD k 0=l.getD k 0
 | 0,a::l,r,_=>by rw [List.take_zero,learn_nil]
 | k+1,a::l,[],_=>by rw [List.take_nil,learn_nil]
 | k+1,a::l,b::r,h=>by simpa [learnL] using learn_at k l r (by simpa using h)
theorem learn_step:∀ (k:Nat) (l r:List Int),k < l.length→k < r.length→learnL l (r.take (k+1))=(learnL l (r.take k)).set k (mx (l.getD k 0) (r.getD k 0))
 | 0,a::l,b::r,_,_=>by simp [learnL,learn_nil]
 | k+1,a::l,b::r,h,h'=>by simpa [learnL] using learn_step k l r (by simpa using h) (by simpa using h')
theorem learn_long:∀ (l r:List Int),l.length≤r.length→learnL l (r.take l.length)=learnL l r
 | [],r,_=>by simp [learnL]
 | a::l,[],h=>by simp at h
 | a::l,b::r,h=>by simpa [learnL] using learn_long l r (by simpa using h)
theorem learn_join:∀ (l r:List Int),l.length≤r.length→learnL l r=joinL l r
 | [],r,_=>by simp [learnL,joinL]
 | a::l,[],h=>by simp at h
 | a::l,b::r,h=>by simp [learnL,joinL,learn_join l r (by simpa using h)]
theorem join_take:∀ (l r:List Int),joinL (l.take (min l.length r.length)) r=joinL l r
 | [],r=>by simp [joinL]
 | a::l,[]=>by simp [joinL]
 | a::l,b::r=>by
  have h:=join_take l r
  simp only [joinL] at h ⊢
  rw [List.length_cons,List.length_cons,Nat.add_min_add_right,List.take_succ_cons,List.zipWith_cons_cons,List.zipWith_cons_cons,h]
theorem join_cut (l r:List Int) (h:r.length≤l.length):joinL (l.take r.length) r=joinL l r:=by
 have:=join_take l r
 rwa [Nat.min_eq_right h] at this
theorem join_cut' (l r:List Int) (h:l.length≤r.length):joinL l (r.take l.length)=joinL l r:=by
 simp only [joinL]
 apply List.ext_getElem? fun i=>?_
 rw [List.getElem?_zipWith,List.getElem?_zipWith]
 by_cases hi:i < l.length
 ·rw [List.getElem?_take,if_pos hi]
 ·rw [List.getElem?_eq_none (show l.length≤i by omega)]
theorem join_len (l r:List Int):(joinL l r).length=min l.length r.length:=by simp [joinL]
theorem join_step (k:Nat) (l r:List Int) (h:k < l.length) (h':k < r.length):joinL (l.take (k+1)) (r.take (k+1))=joinL (l.take k) (r.take k)++[mx (l.getD k 0) (r.getD k 0)]:=by
 rw [List.take_add_one,List.take_add_one,List.getElem?_eq_getElem h,List.getElem?_eq_getElem h']
 simp only [joinL,Option.toList_some]
 rw [List.zipWith_append (by simp;omega)]
 simp [List.getD_eq_getElem?_getD,h,h']
theorem mx_l1 (a b:Int):(if a > b then a else b)=mx a b:=by unfold mx;split<;>split<;>omega
theorem l1Max_any (a b:Int) (w:World):Calls Tryz.prog 100 #[.int .i64 a,.int .i64 b] w fun e w'=>e=.returned (.int .i64 (mx a b))∧w'=w:=by
 rw [← mx_l1]
 by_cases h:a > b
 ·rw [if_pos h]
  go_enter Tryz.func100,Tryz.ntmps100
  go_wp2
  go_ret
  exact ⟨rfl,rfl⟩
 ·rw [if_neg h]
  go_enter Tryz.func100,Tryz.ntmps100
  go_wp2
  go_ret
  exact ⟨rfl,rfl⟩
theorem mkView (n:Nat) (hn:n≤1048577) (w:World):(Instr.makeSlice 113 (.int .i64 (n:Int)) (.int .i64 (n:Int))).run Tryz.prog w=.ok (.slice (some ⟨w.heap.size,0,none⟩) n n) (w.alloc (.cells (madeCells #[.int .i64 0] (n * 1)) 3)):=by
 have h:=run_make (P:=Tryz.prog) w 113 3 _ (.int .i64 0) Tryz.underlying113 rfl rfl .i64 .i64 n n (by omega) (Int.le_refl _) (by show (8:Int) * _≤_;omega) (by omega)
 have e:(Value.int .i64 0).cells=#[.int .i64 0]:=rfl
 have e':∀ t,Tryz.prog.info? 3=some t→t.size=1:=by intro t h;cases h;rfl
 rw [e,e' _ rfl] at h
 simpa using h
theorem cells_row {w:World} {g o:Nat} {l:List Int} (hc:∀ i,i < l.length→w.cell? ⟨g,o+i,none⟩=some (.int .i64 (l.getD i 0))):∀ j u,(l.map (Value.int .i64))[j]? =some u→w.cell? (Addr.add ⟨g,o,none⟩ j)=some u:=by
 intro j u hu
 rw [List.getElem?_map] at hu
 by_cases hj:j < l.length
 ·have e:(Addr.add ⟨g,o,none⟩ j)=⟨g,o+j,none⟩:=by
   by_cases h:j=0
   ·subst h;rfl
   ·simp [Addr.add,h]
  rw [e,hc j hj]
  simpa [List.getD_eq_getElem?_getD,List.getElem?_eq_getElem hj] using hu
 ·rw [List.getElem?_eq_none (by omega)] at hu
  simp at hu
theorem ownN_mk {w:World} {base g:Nat} {l:List Int} {cs:List Value} (hb:base≤g) (hl:l.length≤maxLen) (h:w.heap[g]? =some (.cells cs.toArray 3 (0,0))) (e:cs=l.map (Value.int .i64)):OwnN w base (.slice (some ⟨g,0,none⟩) l.length l.length) l:=by
 subst e
 exact ⟨by simp,.inr ⟨g,l.length,_,rfl,hb,h,Nat.le_refl _,hl,by simp,by simp [List.take_of_length_le]⟩⟩
set_option maxHeartbeats 1000000 in
theorem copied_any (s : Option Addr) (c lo hi : Nat) (l : List Int) (w : World) (h : IntsR w lo hi s l) (hB : hi ≤ w.heap.size) (hl : l.length ≤ 1048577) :
  Calls Tryz.prog 88 #[.slice s l.length c] w fun e w'=>e=.returned (.slice (some ⟨w.heap.size,0,none⟩) l.length l.length)∧OwnN w' w.heap.size (.slice (some ⟨w.heap.size,0,none⟩) l.length l.length) l∧Below w.heap.size w w':=by
 have hmk:=mkView l.length hl
 have HC:Hid (IntsR w lo hi s l):=h
 clear h
 go_enter Tryz.func88,Tryz.ntmps88
 go_wp2_with (refine wpList_copy_splice rfl _ _ 113 113 rfl 3 Tryz.underlying113 rfl _ s _ _ _ _ rfl rfl w.heap.size 0 (madeCells #[.int .i64 0] l.length).toList 3 (by rw [Array.toArray_toList];exact heap_alloc_new _ _) (l.map (Value.int .i64)) (by simp) (fun hp=>⟨rfl,by obtain ⟨g,off,e,h1,h2,h3⟩:=HC.out.pos (by simpa using hp);exact ⟨_,e,cells_row fun i hi=>(((Below.refl _ _).alloc (Nat.le_refl _) _).cell (p:=⟨g,off+i,none⟩) (by show g < w.heap.size;omega)).trans (h3 i hi)⟩⟩) (by simp [size_madeCells]) (fun v hv=>by obtain ⟨z,-,rfl⟩:=List.mem_map.1 hv;rfl) w.heap.size w ((Below.refl _ _).alloc (Nat.le_refl _) _) (Nat.le_refl _) ?_;intro w2 HG2 hB2)
 go_ret
 refine ⟨rfl,ownN_mk (Nat.le_refl _) (by unfold maxLen;omega) HG2.out ?_,hB2⟩
 simp [splice,size_madeCells]
set_option maxHeartbeats 2000000 in
theorem learn_any (base g cap : Nat) (l : List Int) (s' : Option Addr) (c' lo hi : Nat) (l' : List Int) (w : World) (h : OwnN w base (.slice (some ⟨g, 0, none⟩) l.length cap) l) (h' : IntsR w lo hi s' l') (hh : hi ≤ w.heap.size) (hav : ∀ g' o', s' = some ⟨g', o', none⟩ → 0 < l'.length → g' ≠ g) (hl : l.length ≤ 1048577) (hl' : l'.length ≤ 1048577) :
  Calls Tryz.prog 128 #[.slice (some ⟨g,0,none⟩) l.length cap,.slice s' l'.length c'] w fun e w'=>e=.returned (.tuple #[])∧OwnN w' base (.slice (some ⟨g,0,none⟩) l.length cap) (learnL l l')∧Exc g (g+1) w w'∧w'.heap.size=w.heap.size:=by
 have H:Hid (OwnN w base (.slice (some ⟨g,0,none⟩) l.length cap) l):=h
 have H':Hid (IntsR w lo hi s' l'):=h'
 clear h h'
 by_cases hc:l'.length < l.length
 ·have hlm:l'.length≤l.length:=by omega
  go_enter Tryz.func128,Tryz.ntmps128
  go_wp2
  go_loopw [4,10] (fun u i wr=>∃ k:Nat,k≤l'.length∧i=.int .i64 k∧OwnN wr base (.slice (some ⟨g,0,none⟩) l.length cap) (learnL l (l'.take k))∧Exc g (g+1) w wr∧wr.heap.size=w.heap.size) (fun _ i _=>l'.length - (intOf i).toNat)
  case atStart=>exact ⟨0,Nat.zero_le _,rfl,by rw [List.take_zero,learn_nil];exact H.out,⟨rfl,rfl,rfl,Nat.le_refl _,fun _ _ _=>rfl⟩,rfl⟩
  case round=>
   obtain ⟨k,hk,rfl,ho,hx,hz⟩:=hrel
   have HO:Hid (OwnN wr base (.slice (some ⟨g,0,none⟩) l.length cap) (learnL l (l'.take k))):=ho
   have HX:Hid (Exc g (g+1) w wr):=hx
   have HZ:Hid (wr.heap.size=w.heap.size):=hz
   clear ho hx hz
   by_cases hlt:k < l'.length
   ·have hk1:k < l.length:=by omega
    have hk2:k < l'.length:=by omega
    obtain ⟨g',o',e',q1,q2,q3⟩:=H'.out.pos (by omega)
    subst e'
    have hr:wr.ownsRow base 3 1 (.slice (some ⟨g,0,none⟩) l.length cap) l.length ((learnL l (l'.take k)).map (Value.int .i64)):=by have h:=HO.out;unfold OwnN at h;rw [learn_len] at h;exact h
    have hgw:=(World.ownsRow.lt H.out g rfl).2
    have e1:wr.cell? ⟨g,k,none⟩=some (.int .i64 (l.getD k 0)):=by
     rw [World.ownsRow.cellAt hr k (by omega),List.getElem?_map,← learn_at k l l' hk1,List.getD_eq_getElem?_getD,List.getElem?_eq_getElem (by rw [learn_len];omega)]
     rfl
    have e2:wr.cell? ⟨g',o'+k,none⟩=some (.int .i64 (l'.getD k 0)):=(World.cell?_of_block (w:=w) (HX.out.blk g' (by omega) (by have:=hav g' o' rfl (by omega);omega))).trans (q3 k hk2)
    have hfz:wr.frozen? ⟨g,k,none⟩=false:=World.ownsRow.frozenAt hr k
    have HRo:=(show Hid _ from hr)
    have ST:Hid (learnL l (l'.take (k+1))=(learnL l (l'.take k)).set k (mx (l.getD k 0) (l'.getD k 0))):=learn_step k l l' hk1 hk2
    generalize l.getD k 0=x at e1 ST
    generalize l'.getD k 0=y at e2 ST
    clear hr q3
    have b0:(0:Int)≤(k:Int):=by omega
    have b1:(k:Int) < (l.length:Int):=by omega
    have b2:(k:Int) < (l'.length:Int):=by omega
    obtain ⟨z,hz⟩:∃ z:Int,(if y > x then y else x)=z:=⟨_,rfl⟩
    have HZz:Hid (mx x y=z):=hz
    go_wp2
    go_region
    go_wp2
    go_roundw
    case rel=>
     have p5:=(World.ownsRow.stored HRo.out k (.int .i64 z)).1
     have e0:((learnL l (l'.take k)).map (Value.int .i64)).set k (.int .i64 z)=(learnL l (l'.take (k+1))).map (Value.int .i64):=by rw [ST.out,HZz.out,List.map_set]
     rw [e0] at p5
     refine ⟨k+1,by omega,by go_num,?_,?_,?_⟩
     ·unfold OwnN
      rw [learn_len]
      exact p5
     ·obtain ⟨x1,x2,x3,x4,x5⟩:=HX.out
      exact ⟨x1,x2,x3,by show w.heap.size≤(wr.setCell _ _).heap.size;simpa using x4,fun j hj hc=>(Below.heap_setCell _ _ _ j (fun e=>by have:j=g:=e;omega)).trans (x5 j hj hc)⟩
     ·show (wr.setCell _ _).heap.size=_
      simpa using HZ.out
    case measure=>simp [intOf];omega
   ·go_wp2
    go_end0
    have:k=l'.length:=by omega
    subst this
    have ho:=HO.out
    rw [List.take_length] at ho
    exact ⟨rfl,ho,HX.out,HZ.out⟩
 ·have hlm:l.length≤l'.length:=by omega
  go_enter Tryz.func128,Tryz.ntmps128
  go_wp2
  go_loopw [4,10] (fun u i wr=>∃ k:Nat,k≤l.length∧i=.int .i64 k∧OwnN wr base (.slice (some ⟨g,0,none⟩) l.length cap) (learnL l (l'.take k))∧Exc g (g+1) w wr∧wr.heap.size=w.heap.size) (fun _ i _=>l.length - (intOf i).toNat)
  case atStart=>exact ⟨0,Nat.zero_le _,rfl,by rw [List.take_zero,learn_nil];exact H.out,⟨rfl,rfl,rfl,Nat.le_refl _,fun _ _ _=>rfl⟩,rfl⟩
  case round=>
   obtain ⟨k,hk,rfl,ho,hx,hz⟩:=hrel
   have HO:Hid (OwnN wr base (.slice (some ⟨g,0,none⟩) l.length cap) (learnL l (l'.take k))):=ho
   have HX:Hid (Exc g (g+1) w wr):=hx
   have HZ:Hid (wr.heap.size=w.heap.size):=hz
   clear ho hx hz
   by_cases hlt:k < l.length
   ·have hk1:k < l.length:=by omega
    have hk2:k < l'.length:=by omega
    obtain ⟨g',o',e',q1,q2,q3⟩:=H'.out.pos (by omega)
    subst e'
    have hr:wr.ownsRow base 3 1 (.slice (some ⟨g,0,none⟩) l.length cap) l.length ((learnL l (l'.take k)).map (Value.int .i64)):=by have h:=HO.out;unfold OwnN at h;rw [learn_len] at h;exact h
    have hgw:=(World.ownsRow.lt H.out g rfl).2
    have e1:wr.cell? ⟨g,k,none⟩=some (.int .i64 (l.getD k 0)):=by
     rw [World.ownsRow.cellAt hr k (by omega),List.getElem?_map,← learn_at k l l' hk1,List.getD_eq_getElem?_getD,List.getElem?_eq_getElem (by rw [learn_len];omega)]
     rfl
    have e2:wr.cell? ⟨g',o'+k,none⟩=some (.int .i64 (l'.getD k 0)):=(World.cell?_of_block (w:=w) (HX.out.blk g' (by omega) (by have:=hav g' o' rfl (by omega);omega))).trans (q3 k hk2)
    have hfz:wr.frozen? ⟨g,k,none⟩=false:=World.ownsRow.frozenAt hr k
    have HRo:=(show Hid _ from hr)
    have ST:Hid (learnL l (l'.take (k+1))=(learnL l (l'.take k)).set k (mx (l.getD k 0) (l'.getD k 0))):=learn_step k l l' hk1 hk2
    generalize l.getD k 0=x at e1 ST
    generalize l'.getD k 0=y at e2 ST
    clear hr q3
    have b0:(0:Int)≤(k:Int):=by omega
    have b1:(k:Int) < (l.length:Int):=by omega
    have b2:(k:Int) < (l'.length:Int):=by omega
    obtain ⟨z,hz⟩:∃ z:Int,(if y > x then y else x)=z:=⟨_,rfl⟩
    have HZz:Hid (mx x y=z):=hz
    go_wp2
    go_region
    go_wp2
    go_roundw
    case rel=>
     have p5:=(World.ownsRow.stored HRo.out k (.int .i64 z)).1
     have e0:((learnL l (l'.take k)).map (Value.int .i64)).set k (.int .i64 z)=(learnL l (l'.take (k+1))).map (Value.int .i64):=by rw [ST.out,HZz.out,List.map_set]
     rw [e0] at p5
     refine ⟨k+1,by omega,by go_num,?_,?_,?_⟩
     ·unfold OwnN
      rw [learn_len]
      exact p5
     ·obtain ⟨x1,x2,x3,x4,x5⟩:=HX.out
      exact ⟨x1,x2,x3,by show w.heap.size≤(wr.setCell _ _).heap.size;simpa using x4,fun j hj hc=>(Below.heap_setCell _ _ _ j (fun e=>by have:j=g:=e;omega)).trans (x5 j hj hc)⟩
     ·show (wr.setCell _ _).heap.size=_
      simpa using HZ.out
    case measure=>simp [intOf];omega
   ·go_wp2
    go_end0
    have:k=l.length:=by omega
    subst this
    have ho:=HO.out
    have e9:=learn_long l l' hlm;rw [e9] at ho
    exact ⟨rfl,ho,HX.out,HZ.out⟩
theorem cut_any (s:Option Addr) (n c k:Nat) (w:World) (hk:k≤c):Calls Tryz.prog 103 #[.slice s n c,.int .i64 k] w fun e w'=>e=.returned (.slice s k k)∧w'=w:=by
 have h0:(0:Int)≤(k:Int):=by omega
 have h1:(k:Int)≤(c:Int):=by omega
 go_enter Tryz.func103,Tryz.ntmps103
 go_wp2
 go_ret
 exact ⟨rfl,rfl⟩
set_option maxHeartbeats 2000000 in
theorem specJoin_any (s s' : Option Addr) (c c' lo hi lo' hi' : Nat) (l l' : List Int) (w : World) (h : IntsR w lo hi s l) (h' : IntsR w lo' hi' s' l') (hl : l.length ≤ 1048577) (hl' : l'.length ≤ 1048577) (hB : hi ≤ w.heap.size) (hB' : hi' ≤ w.heap.size) :
  Calls Tryz.prog 101 #[.slice s l.length c,.slice s' l'.length c'] w fun e w'=>∃ v,e=.returned v∧OwnN w' w.heap.size v (joinL l l')∧Below w.heap.size w w':=by
 have H:Hid (IntsR w lo hi s l):=h
 have H':Hid (IntsR w lo' hi' s' l'):=h'
 clear h h'
 go_enter Tryz.func101,Tryz.ntmps101
 go_wp2
 go_loopw [5,6] (fun u i wr=>∃ k:Nat,k≤l.length∧k≤l'.length∧i=.int .i64 k∧OwnN wr w.heap.size u (joinL (l.take k) (l'.take k))∧Below w.heap.size w wr) (fun _ i _=>l'.length - (intOf i).toNat)
 case atStart=>exact ⟨0,Nat.zero_le _,Nat.zero_le _,rfl,by simpa [joinL] using ownN_empty (Nat.le_refl _),(Below.refl _ _).alloc (Nat.le_refl _) _⟩
 case round=>
  obtain ⟨k,hk,hk',rfl,ho,hb⟩:=hrel
  have HO:Hid (OwnN wr w.heap.size u5 (joinL (l.take k) (l'.take k))):=ho
  have HB:Hid (Below w.heap.size w wr):=hb
  have hs:=hb.size
  clear ho hb
  by_cases hlt:k < l.length
  ·by_cases hlt':k < l'.length
   ·obtain ⟨g,o,e1,a1,a2,a3⟩:=H.out.pos (by omega)
    obtain ⟨g',o',e1',a1',a2',a3'⟩:=H'.out.pos (by omega)
    subst e1 e1'
    have e1:=(HB.out.cell (p:=⟨g,o+k,none⟩) (show g < _ by omega)).trans (a3 k hlt)
    have e2:=(HB.out.cell (p:=⟨g',o'+k,none⟩) (show g' < _ by omega)).trans (a3' k hlt')
    have ST:Hid (joinL (l.take (k+1)) (l'.take (k+1))=joinL (l.take k) (l'.take k)++[mx (l.getD k 0) (l'.getD k 0)]):=join_step k l l' hlt hlt'
    have TL:Hid ((joinL (l.take k) (l'.take k)).length=k):=by show (joinL (l.take k) (l'.take k)).length=k;rw [join_len];simp;omega
    clear a3 a3'
    generalize l.getD k 0=x at e1 ST
    generalize l'.getD k 0=y at e2 ST
    generalize joinL (l.take k) (l'.take k)=lk at HO ST TL
    generalize hz:mx x y=z at ST
    have HZ:Hid (mx x y=z):=hz
    clear hz
    have b0:(0:Int)≤(k:Int):=by omega
    have b1:(k:Int) < (l.length:Int):=by omega
    have b2:(k:Int) < (l'.length:Int):=by omega
    have gl:g < wr.heap.size:=by omega
    have gl':g' < wr.heap.size:=by omega
    go_wp2_with fail
    go_region_held3 (fun w'=>w'.cell? ⟨g,o+k,none⟩=some (.int .i64 x)∧w'.cell? ⟨g',o'+k,none⟩=some (.int .i64 y)) (go_keep) (first | (go_at_call 100;refine (l1Max_any x y _).mono ?_;rintro e w' ⟨rfl,rfl⟩;rw [HZ.out]) | (refine step_row rfl _ _ rfl _ w.heap.size u5 lk rfl (HO.out.alloc (.cells #[.int .i64 z] 3)) wr.heap.size 0 1 [z] rfl (fun i hi=>by simp at hi;subst hi;simp [go_sem]) (by simp) (by have:=TL.out;simp;omega) (by simp;omega) ?_;intro g1 cap1 w1 ho1 hb1 hg1 hg1';have t1:=(hb1.cell (p:=⟨g,o+k,none⟩) (show g < w.heap.size by omega)).trans ((show _=wr.cell? ⟨g,o+k,none⟩ by simp [go_sem,gl]).trans e1);have t2:=(hb1.cell (p:=⟨g',o'+k,none⟩) (show g' < w.heap.size by omega)).trans ((show _=wr.cell? ⟨g',o'+k,none⟩ by simp [go_sem,gl']).trans e2)))
    have HO1:Hid (OwnN w1 w.heap.size (.slice (some ⟨g1,0,none⟩) (lk.length+1) cap1) (lk++[z])):=ho1
    have HB1:Hid (Below w.heap.size w w1):=HB.out.trans ((show Below w.heap.size wr (wr.alloc (.cells #[.int .i64 z] 3)).drew from Below.drew ((Below.refl _ _).alloc hs _)).trans hb1)
    clear ho1 hb1 t1 t2
    go_wp2
    go_roundw
    case rel=>exact ⟨k+1,by omega,by omega,by go_num,by rw [ST.out];exact HO1.out,HB1.out⟩
    case measure=>simp [intOf];omega
   ·have e0:joinL (l.take k) (l'.take k)=joinL l l':=by
     have:k=l'.length:=by omega
     subst this
     rw [List.take_length]
     have:=join_cut l l' hk
     exact this
    go_wp2
    go_ret
    exact ⟨_,rfl,by have:=HO.out;rw [e0] at this;exact this,HB.out⟩
  ·have e0:joinL (l.take k) (l'.take k)=joinL l l':=by
    have:k=l.length:=by omega
    subst this
    rw [List.take_length]
    have:=join_cut' l l' hk'
    exact this
   go_wp2
   go_ret
   exact ⟨_,rfl,by have:=HO.out;rw [e0] at this;exact this,HB.out⟩
end
section
set_option linter.unusedSimpArgs false
set_option linter.unusedVariables false
set_option maxRecDepth 100000
open Go.RowKit
theorem endsCode_any (o r a b n:Int) (w:World):Calls Tryz.prog 105 #[.agg #[.int .i64 o,.int .i64 r,.int .i64 a,.int .i64 b,.int .i64 n]] w fun e w'=>e=.returned (.bool (Plain.endB o))∧Below w.heap.size w w':=by
 by_cases h1:o=10
 ·subst h1
  go_enter Tryz.func105,Tryz.ntmps105
  go_wp2
  go_ret
  exact ⟨rfl,(Below.refl _ _).alloc (Nat.le_refl _) _⟩
 have h2:(o==10)=false:=by simp [h1]
 by_cases h3:o=12
 ·subst h3
  go_enter Tryz.func105,Tryz.ntmps105
  go_wp2
  go_ret
  exact ⟨rfl,(Below.refl _ _).alloc (Nat.le_refl _) _⟩
 have h4:(o==12)=false:=by simp [h3]
 go_enter Tryz.func105,Tryz.ntmps105
 go_wp2
 go_ret
 exact ⟨ret_bool (by rw [Bool.eq_iff_iff];simp [Plain.endB,h1,h3]),(Below.refl _ _).alloc (Nat.le_refl _) _⟩
set_option maxRecDepth 100000 in
set_option maxHeartbeats 1000000 in
theorem implCode_some (g off c B : Nat) (l : List I5) (w : World) (hg : g < B) (hc : ∀ i, i < l.length → At5 w g (off + i * 5) (l.getD i z5)) (hB : B ≤ w.heap.size) (hl1 : 1 ≤ l.length) (hl : l.length ≤ 800) :
  Calls Tryz.prog 89 #[.slice (some ⟨g,off,none⟩) l.length c] w fun e w'=>e=.returned (.bool (codeB l))∧Below w.heap.size w w':=by
 have HC:Hid (∀ i,i < l.length→At5 w g (off+i * 5) (l.getD i z5)):=hc
 clear hc
 have q1:¬ (l.length:Int) < 1:=by omega
 have q2:¬ 800 < (l.length:Int):=by omega
 go_enter Tryz.func89,Tryz.ntmps89
 go_wp2
 go_loopw [15] (fun i wr=>∃ k:Nat,k≤l.length∧i=.int .i64 k∧Below w.heap.size w wr∧(∀ i,i < k→stX (l.getD i z5) l.length=true)) (fun i _=>l.length - (intOf i).toNat)
 case atStart=>exact ⟨0,Nat.zero_le _,rfl,Below.refl _ _,fun i hi=>absurd hi (Nat.not_lt_zero _)⟩
 case round=>
  obtain ⟨k,hk,rfl,hb,hd⟩:=hrel
  have HB:Hid (Below w.heap.size w wr):=hb
  have HD:Hid (∀ i,i < k→stX (l.getD i z5) l.length=true):=hd
  clear hb hd
  by_cases hlt:k < l.length
  ·obtain ⟨f0,f1,f2,f3,f4⟩:=(HC.out k hlt).keep HB.out (by omega)
   cases hv:stX (l.getD k z5) l.length
   ·have F:Hid (codeB l=false):=code_no hlt hv
    generalize l.getD k z5=x at f0 f1 f2 f3 f4 hv
    obtain ⟨xo,xr,xa,xb,xn⟩:=x
    have V:Hid (Plain.stepB xo xr xa xb xn l.length=false):=hv
    clear hv
    have b0:(0:Int)≤(k:Int):=by omega
    have b1:(k:Int) < (l.length:Int):=by omega
    go_wp2_with fail
    refine (stepOk_any _ _ _ _ _ _ _).mono ?_
    rintro e w1 ⟨rfl,hb1⟩
    rw [V.out]
    have hs1:=HB.out.size
    go_wp2
    go_ret
    exact ⟨by rw [F.out];rfl,(HB.out.alloc hs1 _).trans (hb1.mono (by simp;omega))⟩
   ·have HV:Hid (stX (l.getD k z5) l.length=true):=hv
    generalize l.getD k z5=x at f0 f1 f2 f3 f4 hv
    obtain ⟨xo,xr,xa,xb,xn⟩:=x
    have V:Hid (Plain.stepB xo xr xa xb xn l.length=true):=hv
    clear hv
    have b0:(0:Int)≤(k:Int):=by omega
    have b1:(k:Int) < (l.length:Int):=by omega
    go_wp2_with fail
    refine (stepOk_any _ _ _ _ _ _ _).mono ?_
    rintro e w1 ⟨rfl,hb1⟩
    rw [V.out]
    have hs1:=HB.out.size
    have HB1:Hid (Below w.heap.size w w1):=(HB.out.alloc hs1 _).trans (hb1.mono (by simp;omega))
    clear hb1
    go_wp2
    go_roundw
    case rel=>
     refine ⟨k+1,by omega,by go_num,HB1.out,?_⟩
     intro i hi
     by_cases e:i=k
     ·subst e;exact HV.out
     ·exact HD.out i (by omega)
    case measure=>simp [intOf];omega
  ·have:k=l.length:=by omega
   subst this
   have F:Hid (codeB l=lastB l):=by
    show _=_
    rw [code_all HD.out,decide_eq_true ⟨hl1,hl⟩]
    simp
   obtain ⟨f0,f1,f2,f3,f4⟩:=(HC.out (l.length - 1) (by omega)).keep HB.out (by omega)
   generalize hx:l.getD (l.length - 1) z5=x at f0 f1 f2 f3 f4
   have FX:Hid (lastB l=Plain.endB x.o):=by show _=_;unfold lastB;rw [hx]
   clear hx
   obtain ⟨xo,xr,xa,xb,xn⟩:=x
   have b0:(1:Int)≤(l.length:Int):=by omega
   have b1:(l.length:Int) - 1 < (l.length:Int):=by omega
   go_wp2_with fail
   refine (endsCode_any _ _ _ _ _ _).mono ?_
   rintro e w1 ⟨rfl,hb1⟩
   have hs1:=HB.out.size
   go_wp2
   go_ret
   exact ⟨ret_bool (by rw [F.out,FX.out]),HB.out.trans (hb1.mono hs1)⟩
theorem implCode_bad (s : Option Addr) (n c : Nat) (w : World) (hn : n ≤ 1048576) (h : n < 1 ∨ 800 < n) :
  Calls Tryz.prog 89 #[.slice s n c] w fun e w'=>e=.returned (.bool false)∧w'=w:=by
 by_cases h2:n < 1
 ·have q1:(n:Int) < 1:=by omega
  clear h h2
  go_enter Tryz.func89,Tryz.ntmps89
  go_wp2
  go_ret
  exact ⟨rfl,rfl⟩
 ·have q1:¬ (n:Int) < 1:=by omega
  have q2:800 < (n:Int):=by omega
  clear h h2
  go_enter Tryz.func89,Tryz.ntmps89
  go_wp2
  go_ret
  exact ⟨rfl,rfl⟩
theorem implCode_any (s : Option Addr) (c B : Nat) (l : List I5) (w : World) (h : InsB w B s l) (hB : B ≤ w.heap.size) (hl : l.length ≤ 1048576) :
  Calls Tryz.prog 89 #[.slice s l.length c] w fun e w'=>e=.returned (.bool (codeB l))∧Below w.heap.size w w':=by
 by_cases hd:1≤l.length∧l.length≤800
 ·obtain ⟨h2,h3⟩:=hd
  rcases h with rfl | ⟨g,off,rfl,hg,hc⟩
  ·simp at h2
  ·exact implCode_some g off c B l w hg hc hB h2 h3
 ·have F:codeB l=false:=by
   refine code_short ?_
   simp [Plain.inB]
   omega
  rw [F]
  refine (implCode_bad s l.length c w hl (by omega)).mono ?_
  rintro e w' ⟨rfl,rfl⟩
  exact ⟨rfl,Below.refl _ _⟩
end
section
set_option linter.unusedSimpArgs false
set_option linter.unusedVariables false
set_option maxRecDepth 100000
section
open Go.RowKit
theorem isState_any (n:Int) (w:World):Calls Tryz.prog 106 #[.int .i64 n] w fun e w'=>e=.returned (.bool (Plain.inB n 0 2))∧w'=w:=by
 by_cases h0:n=0
 ·subst h0
  go_enter Tryz.func106,Tryz.ntmps106
  go_wp2
  go_ret
  exact ⟨rfl,rfl⟩
 by_cases h1:n=1
 ·subst h1
  go_enter Tryz.func106,Tryz.ntmps106
  go_wp2
  go_ret
  exact ⟨rfl,rfl⟩
 by_cases h2:n=2
 ·subst h2
  go_enter Tryz.func106,Tryz.ntmps106
  go_wp2
  go_ret
  exact ⟨rfl,rfl⟩
 ·have e0:(n==0)=false:=by simpa using h0
  have e1:(n==1)=false:=by simpa using h1
  have e2:(n==2)=false:=by simpa using h2
  have F:Hid (Plain.inB n 0 2=false):=by show _=_;simp [Plain.inB];omega
  clear h0 h1 h2
  go_enter Tryz.func106,Tryz.ntmps106
  go_wp2
  go_ret
  exact ⟨by rw [F.out];rfl,rfl⟩
def codesB (l:List (List I5)):Bool:=decide (1≤l.length∧l.length≤4)&&l.all codeB
def coreB (m:List (List WD)) (k:KD) (n:Nat):Bool:=decide (k.regs.length=8)&&(Plain.inB k.st 0 2&&(Plain.oneB k.pc n&&viewB m k.vw))
def coresB (m:List (List WD)) (cs:List KD) (l:List (List I5)):Bool:=decide (cs.length=l.length)&&(cs.zip l).all (fun x=>coreB m x.1 x.2.length)
def trB (l:List ND) (n:Nat):Bool:=decide (l.length≤4000)&&l.all (fun t=>Plain.oneB t.who n)
theorem all_yes {α:Type} {p:α→Bool} {l:List α} (h:∀ (i:Nat) (t:α),l[i]? =some t→p t=true):l.all p=true:=by
 rw [List.all_eq_true]
 intro x hx
 obtain ⟨i,hi,e⟩:=List.getElem_of_mem hx
 exact h i x (by rw [List.getElem?_eq_getElem hi,e])
def machB (d:MD):Bool:=codesB d.codes&&(coresB d.mem d.cores d.codes&&(trB d.tr d.cores.length&&memB d.mem))
set_option maxHeartbeats 2000000 in
theorem coreOk_any (k : KD) (s1 s2 s3 s4 : Option Addr) (c1 c2 c3 c4 n lo hi lo' hi' : Nat) (m : List (List WD)) (w : World) (h : MemR w lo hi s4 m) (h' : IntsR w lo' hi' s2 k.vw) (hB : hi ≤ w.heap.size) (hB' : hi' ≤ w.heap.size) (hr : k.regs.length ≤ 2000000) (hl : k.vw.length ≤ 2000000) (hn : n ≤ 2000000) :
  Calls Tryz.prog 90 #[.agg #[.int .i64 k.pc,.slice s1 k.regs.length c1,.slice s2 k.vw.length c2,.int .i64 k.st],.slice s3 n c3,.agg #[.slice s4 m.length c4]] w fun e w'=>e=.returned (.bool (coreB m k n))∧Below w.heap.size w w':=by
 have H:Hid (MemR w lo hi s4 m):=h
 have H':Hid (IntsR w lo' hi' s2 k.vw):=h'
 clear h h'
 by_cases h8:k.regs.length=8
 ·have e8:((k.regs.length:Int)==8)=true:=by simp;omega
  have E:Hid (coreB m k n=(Plain.inB k.st 0 2&&(Plain.oneB k.pc n&&viewB m k.vw))):=by show _=_;unfold coreB;rw [decide_eq_true h8];rfl
  clear h8
  cases hs:Plain.inB k.st 0 2
  ·have HS:Hid (Plain.inB k.st 0 2=false):=hs
   clear hs
   go_enter Tryz.func90,Tryz.ntmps90
   go_wp2_with (go_at_call 106;refine (isState_any _ _).mono ?_;rintro e w' ⟨rfl,rfl⟩;rw [HS.out])
   go_ret
   exact ⟨by rw [E.out,HS.out];rfl,((Below.refl _ _).alloc (Nat.le_refl _) _).alloc (by simp) _⟩
  ·have HS:Hid (Plain.inB k.st 0 2=true):=hs
   clear hs
   cases ho:Plain.oneB k.pc n
   ·have HO:Hid (Plain.oneB k.pc n=false):=ho
    clear ho
    go_enter Tryz.func90,Tryz.ntmps90
    go_wp2_with (first | (go_at_call 106;refine (isState_any _ _).mono ?_;rintro e w' ⟨rfl,rfl⟩;rw [HS.out]) | (go_at_call 69;refine (isOneOf_any _ _ _).mono ?_;rintro e w' ⟨rfl,rfl⟩;rw [HO.out]))
    go_ret
    exact ⟨by rw [E.out,HS.out,HO.out];rfl,((Below.refl _ _).alloc (Nat.le_refl _) _).alloc (by simp) _⟩
   ·have HO:Hid (Plain.oneB k.pc n=true):=ho
    clear ho
    have k0:Below w.heap.size w ((w.alloc (.cells #[.int .i64 k.pc,.slice s1 k.regs.length c1,.slice s2 k.vw.length c2,.int .i64 k.st] 64)).alloc (.cells #[.slice s4 m.length c4] 37)):=((Below.refl _ _).alloc (Nat.le_refl _) _).alloc (by simp) _
    have V:=implViewOk_any s4 s2 c4 c2 lo hi lo' hi' m k.vw _ (H.out.keep (Keep.of_below k0 hB)) (H'.out.keep (Keep.of_below k0 hB')) (by simp;omega) (by simp;omega) hl
    have HK:Hid (Below w.heap.size w ((w.alloc (.cells #[.int .i64 k.pc,.slice s1 k.regs.length c1,.slice s2 k.vw.length c2,.int .i64 k.st] 64)).alloc (.cells #[.slice s4 m.length c4] 37))):=k0
    clear k0
    go_enter Tryz.func90,Tryz.ntmps90
    go_wp2_with (first | (go_at_call 106;refine (isState_any _ _).mono ?_;rintro e w' ⟨rfl,rfl⟩;rw [HS.out]) | (go_at_call 69;refine (isOneOf_any _ _ _).mono ?_;rintro e w' ⟨rfl,rfl⟩;rw [HO.out]) | (go_at_call 107;refine V.mono ?_;rintro e w1 ⟨rfl,hb1⟩;have HB1:=(show Hid _ from hb1);clear hb1))
    go_ret
    exact ⟨by rw [E.out,HS.out,HO.out];rfl,HK.out.trans (HB1.out.mono (by simp;omega))⟩
 ·have e8:((k.regs.length:Int)==8)=false:=by simp;omega
  have E:Hid (coreB m k n=false):=by show _=_;unfold coreB;rw [decide_eq_false h8];rfl
  clear h8
  go_enter Tryz.func90,Tryz.ntmps90
  go_wp2
  go_ret
  exact ⟨by rw [E.out];rfl,((Below.refl _ _).alloc (Nat.le_refl _) _).alloc (by simp) _⟩
set_option maxHeartbeats 1000000 in
theorem codesOk_any (s : Option Addr) (c lo hi : Nat) (l : List (List I5)) (w : World) (h : CsR w lo hi s l) (hB : hi ≤ w.heap.size) (hl : l.length + szC l ≤ 1048576) :
  Calls Tryz.prog 65 #[.slice s l.length c] w fun e w'=>e=.returned (.bool (codesB l))∧Below w.heap.size w w':=by
 have H:Hid (CsR w lo hi s l):=h
 have HV:Hid (∀ (i:Nat) (x:List I5),l[i]? =some x→x.length≤1048576):=fun i x hx=>by have:=szC_at l i x hx;omega
 clear h
 by_cases h1:(l.length:Int) < 1
 ·have HR:Hid (codesB l=false):=by show codesB l=false;unfold codesB;rw [decide_eq_false (by omega)];rfl
  go_enter Tryz.func65,Tryz.ntmps65
  go_wp2
  go_ret
  exact ⟨ret_bool' HR.out.symm,Below.refl _ _⟩
 by_cases h2:(l.length:Int) > 4
 ·have HR:Hid (codesB l=false):=by show codesB l=false;unfold codesB;rw [decide_eq_false (by omega)];rfl
  go_enter Tryz.func65,Tryz.ntmps65
  go_wp2
  go_ret
  exact ⟨ret_bool' HR.out.symm,Below.refl _ _⟩
 have HR:Hid (codesB l=l.all codeB):=by show codesB l=_;unfold codesB;rw [decide_eq_true (by omega)];rfl
 go_enter Tryz.func65,Tryz.ntmps65
 go_wp2
 go_loopw [15] (fun i wr=>∃ k:Nat,k≤l.length∧i=.int .i64 k∧Hid ((l.take k).all codeB=true)∧Below w.heap.size w wr) (fun i _=>l.length - (intOf i).toNat)
 case atStart=>exact ⟨0,Nat.zero_le _,rfl,show _=_ by simp,Below.refl _ _⟩
 case round=>
  obtain ⟨k,hk,rfl,HJ,hbw⟩:=hrel
  have HBW:Hid (Below w.heap.size w wr):=hbw
  have z1:=hbw.size
  clear hbw
  by_cases hlt:k < l.length
  ·obtain ⟨x,hx⟩:∃ x,l[k]? =some x:=⟨_,List.getElem?_eq_getElem hlt⟩
   obtain ⟨g,o,s1,c1,e1,q1,q2,q3,q5⟩:=(H.out.keep (Keep.of_below HBW.out hB)).at hx
   subst e1
   have hv:=HV.out k x hx
   have HI:Hid (InsB wr wr.heap.size s1 x):=q5.insB.mono (by omega)
   have HT:Hid ((l.take (k+1)).all codeB=((l.take k).all codeB&&codeB x)):=all_take hx
   have HF:Hid (codeB x=false→l.all codeB=false):=fun h=>all_no hx h
   clear q5 hx
   have b0:(0:Int)≤(k:Int):=by omega
   have b1:(k:Int) < (l.length:Int):=by omega
   go_wp2_with fail
   refine (implCode_any s1 c1 wr.heap.size x wr HI.out (Nat.le_refl _) hv).mono ?_
   rintro e w2 ⟨rfl,hb2⟩
   have HB2:Hid (Below w.heap.size w w2):=HBW.out.trans (hb2.mono z1)
   clear hb2
   generalize codeB x=b at HT HF
   cases b
   ·go_wp2
    go_ret
    exact ⟨ret_bool' (HR.out.trans (by first | exact HF.out rfl | exact HF.out trivial)).symm,HB2.out⟩
   ·go_wp2
    go_roundw
    case rel=>exact ⟨k+1,by omega,by go_num,show _=_ by rw [HT.out,HJ.out];rfl,HB2.out⟩
    case measure=>simp [intOf];omega
  ·go_wp2
   go_ret
   have:k=l.length:=by omega
   subst this
   have hj:=HJ.out
   rw [List.take_length] at hj
   exact ⟨ret_bool' (by rw [HR.out,hj]),HBW.out⟩
end
section
open Go.RowKit
set_option maxRecDepth 100000 in
set_option maxHeartbeats 2000000 in
theorem traceOk_any (s : Option Addr) (c lo hi n : Nat) (l : List ND) (w : World) (h : NtsR w lo hi s l) (hB : hi ≤ w.heap.size) (hl : l.length ≤ 2000000) (hn : n ≤ 1048576) :
  Calls Tryz.prog 67 #[.slice s l.length c,.int .i64 n] w fun e w'=>e=.returned (.bool (trB l n))∧Below w.heap.size w w':=by
 have H1:Hid (NtsR w lo hi s l):=h
 clear h
 by_cases hn:l.length≤4000
 ·have hne:¬ (4000:Int) < (l.length:Int):=by omega
  have E:Hid (trB l n=l.all (fun t=>Plain.oneB t.who n)):=by show _=_;unfold trB;rw [decide_eq_true hn];rfl
  go_enter Tryz.func67,Tryz.ntmps67
  go_wp2
  go_loopw [12] (fun i wr=>∃ k:Nat,k≤l.length∧i=.int .i64 k∧Below w.heap.size w wr∧(∀ (i:Nat) (t:ND),i < k→l[i]? =some t→Plain.oneB t.who n=true)) (fun i _=>l.length - (intOf i).toNat)
  case atStart=>exact ⟨0,Nat.zero_le _,rfl,Below.refl _ _,fun i t hi=>absurd hi (Nat.not_lt_zero _)⟩
  case round=>
   obtain ⟨k,hk,rfl,hb,hd⟩:=hrel
   have HB:Hid (Below w.heap.size w wr):=hb
   have HD:Hid (∀ (i:Nat) (t:ND),i < k→l[i]? =some t→Plain.oneB t.who n=true):=hd
   have hsz:=hb.size
   clear hb hd
   by_cases hlt:k < l.length
   ·obtain ⟨t,ht⟩:∃ t,l[k]? =some t:=⟨_,List.getElem?_eq_getElem hlt⟩
    obtain ⟨g,off,hs,hg,f0,f1⟩:∃ g off,s=some ⟨g,off,none⟩∧g < w.heap.size∧NtR wr g (off+k * 2) t:=by
     rcases H1.out with h | ⟨g,off,a,b,d,e⟩
     ·rw [h] at hlt;simp at hlt
     ·exact ⟨g,off,a,by omega,(HB.out.cell (p:=⟨g,_,none⟩) (by show g < _;omega)).trans (e k t ht).1,(HB.out.cell (p:=⟨g,_,none⟩) (by show g < _;omega)).trans (e k t ht).2⟩
    subst hs
    have HT:Hid (l[k]? =some t):=ht
    obtain ⟨ta,tb⟩:=t
    simp only at f0 f1
    clear ht
    have b0:(0:Int)≤(k:Int):=by omega
    have b1:(k:Int) < (l.length:Int):=by omega
    cases hv:Plain.oneB ta n
    ·have F:Hid (trB l n=false):=by show _=_;rw [E.out];exact all_no HT.out hv
     have HV:Hid (Plain.oneB ta n=false):=hv
     clear hv
     go_wp2_with (go_at_call 69;refine (isOneOf_any _ _ _).mono ?_;rintro e w' ⟨rfl,hw⟩;have hw':=hw.symm;clear hw;subst hw';rw [HV.out])
     go_ret
     exact ⟨by rw [F.out];rfl,HB.out.trans (((Below.refl _ _).alloc (Nat.le_refl _) _).mono hsz)⟩
    ·have HV:Hid (Plain.oneB ta n=true):=hv
     clear hv
     go_wp2_with (go_at_call 69;refine (isOneOf_any _ _ _).mono ?_;rintro e w' ⟨rfl,hw⟩;have hw':=hw.symm;clear hw;subst hw';rw [HV.out])
     go_roundw
     case rel=>
      refine ⟨k+1,by omega,by go_num,HB.out.trans (((Below.refl _ _).alloc (Nat.le_refl _) _).mono hsz),fun i t hi ht=>?_⟩
      by_cases e:i=k
      ·subst e
       rw [HT.out] at ht
       injection ht with ht
       subst ht
       exact HV.out
      ·exact HD.out i t (by omega) ht
     case measure=>simp [intOf];omega
   ·go_wp2
    go_ret
    exact ⟨by rw [E.out,all_yes (fun i t ht=>HD.out i t (by have:=(List.getElem?_eq_some_iff.1 ht).1;omega) ht)];rfl,HB.out⟩
 ·have hne:(4000:Int) < (l.length:Int):=by omega
  have E:Hid (trB l n=false):=by show _=_;unfold trB;rw [decide_eq_false hn];rfl
  clear hn
  go_enter Tryz.func67,Tryz.ntmps67
  go_wp2
  go_ret
  exact ⟨by rw [E.out];rfl,Below.refl _ _⟩
set_option maxHeartbeats 2000000 in
theorem coresOk_any (s1 s2 s3 : Option Addr) (c1 c2 c3 lo hi : Nat) (cs : List KD) (l : List (List I5)) (m : List (List WD)) (w : World) (h : KsR w lo hi s1 cs) (h2 : CsR w lo hi s2 l) (h3 : MemR w lo hi s3 m) (hB : hi ≤ w.heap.size) (hl : cs.length + szK cs ≤ 1048576) (hl2 : l.length + szC l ≤ 1048576) :
  Calls Tryz.prog 66 #[.slice s1 cs.length c1,.slice s2 l.length c2,.agg #[.slice s3 m.length c3]] w fun e w'=>e=.returned (.bool (coresB m cs l))∧Below w.heap.size w w':=by
 have H:Hid (KsR w lo hi s1 cs):=h
 have H2:Hid (CsR w lo hi s2 l):=h2
 have H3:Hid (MemR w lo hi s3 m):=h3
 have HV:Hid (∀ (i:Nat) (x:KD),cs[i]? =some x→x.regs.length+x.vw.length≤1048576):=fun i x hx=>by have:=szK_at cs i x hx;omega
 have HC:Hid (∀ (i:Nat) (x:List I5),l[i]? =some x→x.length≤1048576):=fun i x hx=>by have:=szC_at l i x hx;omega
 clear h h2 h3
 by_cases hn:cs.length=l.length
 ·have hne:((cs.length:Int) !=(l.length:Int))=false:=by simp;omega
  have HN:Hid (cs.length=l.length):=hn
  have HR:Hid (coresB m cs l=(cs.zip l).all (fun x=>coreB m x.1 x.2.length)):=by show _=_;unfold coresB;rw [decide_eq_true hn];rfl
  clear hn
  go_enter Tryz.func66,Tryz.ntmps66
  go_wp2
  obtain ⟨W,hW,bx,kb,zb⟩:=Bo1.new w (.slice s3 m.length c3) 37
  rw [hW]
  clear hW
  have c0:=bx.c0
  have HKB:Hid (Below w.heap.size w W):=kb
  have z0:w.heap.size < W.heap.size:=by omega
  have z9:hi≤W.heap.size:=by omega
  have HW:Hid (KsR W lo hi s1 cs):=H.out.keep (Keep.of_below kb hB)
  have HW2:Hid (CsR W lo hi s2 l):=H2.out.keep (Keep.of_below kb hB)
  have HW3:Hid (MemR W lo hi s3 m):=H3.out.keep (Keep.of_below kb hB)
  clear bx kb zb
  go_loopw [16] (fun i wr=>∃ k:Nat,k≤cs.length∧i=.int .i64 k∧Hid (((cs.zip l).take k).all (fun x=>coreB m x.1 x.2.length)=true)∧Below W.heap.size W wr) (fun i _=>cs.length - (intOf i).toNat)
  case atStart=>exact ⟨0,Nat.zero_le _,rfl,show _=_ by simp,Below.refl _ _⟩
  case round=>
   obtain ⟨k,hk,rfl,HJ,hbw⟩:=hrel
   have HBW:Hid (Below W.heap.size W wr):=hbw
   have d0:=(hbw.cell (p:=⟨w.heap.size,0,none⟩) z0).trans c0
   have z1:=hbw.size
   have z2:w.heap.size < wr.heap.size:=by omega
   clear hbw
   by_cases hlt:k < cs.length
   ·obtain ⟨x,hx⟩:∃ x,cs[k]? =some x:=⟨_,List.getElem?_eq_getElem hlt⟩
    obtain ⟨y,hy⟩:∃ y,l[k]? =some y:=⟨_,List.getElem?_eq_getElem (by have:=HN.out;omega)⟩
    obtain ⟨g,o,t1,e1,t2,e2,es,q1,q2,f0,f1,f2,f3,q5,q6⟩:=(HW.out.keep (Keep.of_below HBW.out z9)).at hx
    obtain ⟨g',o',t3,e3,es',q1',q2',p0,-⟩:=(HW2.out.keep (Keep.of_below HBW.out z9)).at hy
    subst es es'
    have hv:=HV.out k x hx
    have hc:=HC.out k y hy
    have HI:Hid (IntsR wr lo hi t2 x.vw):=q6
    have HM:Hid (MemR wr lo hi s3 m):=HW3.out.keep (Keep.of_below HBW.out z9)
    have hz:(cs.zip l)[k]? =some (x,y):=by rw [List.getElem?_zip_eq_some];exact ⟨hx,hy⟩
    have HT:Hid (((cs.zip l).take (k+1)).all (fun x=>coreB m x.1 x.2.length)=(((cs.zip l).take k).all (fun x=>coreB m x.1 x.2.length)&&coreB m x y.length)):=all_take (p:=fun (x:KD×List I5)=>coreB m x.1 x.2.length) hz
    have HF:Hid (coreB m x y.length=false→(cs.zip l).all (fun x=>coreB m x.1 x.2.length)=false):=fun h=>all_no (p:=fun (x:KD×List I5)=>coreB m x.1 x.2.length) hz h
    generalize hyn:y.length=n at HT HF p0 hc
    clear q5 q6 hx hy hz hyn
    have b0:(0:Int)≤(k:Int):=by omega
    have b1:(k:Int) < (cs.length:Int):=by omega
    have b2:(k:Int) < (l.length:Int):=by have:=HN.out;omega
    have zg:g < wr.heap.size:=by omega
    have zg':g' < wr.heap.size:=by omega
    go_wp2_with fail
    have k2:Below wr.heap.size wr (wr.alloc (.cells #[.int .i64 x.pc,.slice t1 x.regs.length e1,.slice t2 x.vw.length e2,.int .i64 x.st] 64)):=(Below.refl _ _).alloc (Nat.le_refl _) _
    have A1:Hid (MemR (wr.alloc (.cells #[.int .i64 x.pc,.slice t1 x.regs.length e1,.slice t2 x.vw.length e2,.int .i64 x.st] 64)) lo hi s3 m):=HM.out.keep (Keep.of_below k2 (by omega))
    have A2:Hid (IntsR (wr.alloc (.cells #[.int .i64 x.pc,.slice t1 x.regs.length e1,.slice t2 x.vw.length e2,.int .i64 x.st] 64)) lo hi t2 x.vw):=HI.out.keep (Keep.of_below k2 (by omega))
    have K2:Hid (Below wr.heap.size wr (wr.alloc (.cells #[.int .i64 x.pc,.slice t1 x.regs.length e1,.slice t2 x.vw.length e2,.int .i64 x.st] 64))):=k2
    clear k2
    first | go_region_with (go_at_call 90;refine (coreOk_any x t1 t2 t3 s3 e1 e2 e3 c3 n lo hi lo hi m _ ?_ ?_ ?_ ?_ (by omega) (by omega) (by omega)).mono ?_;(exact A1.out);(exact A2.out);(first | omega | (simp;omega));(first | omega | (simp;omega));rintro e w2 ⟨rfl,hb2⟩) | fail
    all_goals
     have hb3:Below (wr.alloc (.cells #[.int .i64 x.pc,.slice t1 x.regs.length e1,.slice t2 x.vw.length e2,.int .i64 x.st] 64)).heap.size (wr.alloc (.cells #[.int .i64 x.pc,.slice t1 x.regs.length e1,.slice t2 x.vw.length e2,.int .i64 x.st] 64)) w2:=⟨hb2.os,hb2.tape,hb2.output,hb2.size,hb2.block⟩
     have HB2:Hid (Below W.heap.size W w2):=(HBW.out.trans (K2.out.mono z1)).trans (hb3.mono (by simp;omega))
     clear hb2 hb3
     generalize coreB m x n=b at HT HF
     cases b
     ·go_wp2
      go_ret
      exact ⟨ret_bool' (HR.out.trans (by first | exact HF.out rfl | exact HF.out trivial)).symm,HKB.out.trans (HB2.out.mono (by omega))⟩
     ·go_wp2
      go_roundw
      case rel=>exact ⟨k+1,by omega,by go_num,show _=_ by rw [HT.out,HJ.out];rfl,HB2.out⟩
      case measure=>simp [intOf];omega
   ·go_wp2
    go_ret
    have:k=cs.length:=by omega
    subst this
    have hj:=HJ.out
    rw [List.take_of_length_le (by simp;omega)] at hj
    exact ⟨ret_bool' (by rw [HR.out,hj]),HKB.out.trans (HBW.out.mono (by omega))⟩
 ·have hne:((cs.length:Int) !=(l.length:Int))=true:=by simp;omega
  have HR:Hid (coresB m cs l=false):=by show _=_;unfold coresB;rw [decide_eq_false hn];rfl
  go_enter Tryz.func66,Tryz.ntmps66
  go_wp2
  go_ret
  exact ⟨ret_bool' HR.out.symm,(Below.refl _ _).alloc (Nat.le_refl _) _⟩
end
end
section
set_option linter.unusedSimpArgs false
set_option linter.unusedVariables false
set_option maxRecDepth 100000
open Go.RowKit
def rightB (m:List (List WD)) (l:List Int) (cell:Int):Bool:=memB m&&viewB m l&&decide (0≤cell∧cell < 24)
theorem mx_comm (a b:Int):mx a b=mx b a:=by unfold mx;split<;>split<;>omega
structure Rt (m:List (List WD)) (l:List Int) (k:Nat) (r:List WD):Prop where
 hk:k < 24
 hr:m[k]? =some r
 n1:1≤r.length
 n2:r.length≤4000
 hl:l.length=24
 hm:m.length=24
 v0:0≤l.getD k 0
 v1:l.getD k 0 < (r.length:Int)
 hw:∀ (i:Nat) (x:WD),r[i]? =some x→x.vw.length=24
theorem right_of {m:List (List WD)} {l:List Int} {cell:Int} (h:rightB m l cell=true):∃ (k:Nat) (r:List WD),cell=k∧Rt m l k r:=by
 unfold rightB at h
 rw [Bool.and_eq_true,Bool.and_eq_true,decide_eq_true_eq] at h
 obtain ⟨⟨h1,h2⟩,h3⟩:=h
 unfold memB at h1
 rw [Bool.and_eq_true,decide_eq_true_eq,List.all_eq_true] at h1
 unfold viewB at h2
 rw [decide_eq_true_eq] at h2
 obtain ⟨k,rfl⟩:∃ k:Nat,cell=k:=⟨cell.toNat,by omega⟩
 have hk:k < 24:=by omega
 obtain ⟨r,hr⟩:∃ r,m[k]? =some r:=⟨_,List.getElem?_eq_getElem (by omega)⟩
 have h4:=h1.2 r (List.mem_of_getElem? hr)
 unfold rowB at h4
 rw [Bool.and_eq_true,decide_eq_true_eq,List.all_eq_true] at h4
 have h5:=h2.2 k (by omega)
 have e:m.getD k []=r:=by rw [List.getD_eq_getElem?_getD,hr];rfl
 rw [e] at h5
 refine ⟨k,r,rfl,hk,hr,h4.1.1,h4.1.2,by omega,h1.1,h5.1,h5.2,fun i x hx=>?_⟩
 have h6:=h4.2 x (List.mem_of_getElem? hx)
 unfold viewB at h6
 rw [decide_eq_true_eq] at h6
 omega
/- what a memory reads does not lie in block g -/
def MemAv (w:World) (s:Option Addr) (m:List (List WD)) (g:Nat):Prop:=
 ∀ gm om,s=some ⟨gm,om,none⟩→gm≠g∧∀ k gr or_ n1 c1,k < m.length→w.cell? ⟨gm,om+k,none⟩=some (.slice (some ⟨gr,or_,none⟩) n1 c1)→0 < n1→gr≠g∧∀ j g2 o2 n2 c2,j < n1→w.cell? ⟨gr,or_+j * 2+1,none⟩=some (.slice (some ⟨g2,o2,none⟩) n2 c2)→0 < n2→g2≠g
theorem IntsR.off {w w':World} {lo hi:Nat} {s:Option Addr} {l:List Int} (h:IntsR w lo hi s l) (hb:∀ g' o',s=some ⟨g',o',none⟩→0 < l.length→w'.heap[g']? =w.heap[g']?):IntsR w' lo hi s l:=by
 rcases h with h | ⟨g,o,hs,h1,h2,hc⟩
 ·exact .inl h
 ·refine .inr ⟨g,o,hs,h1,h2,fun i hi=>?_⟩
  exact (World.cell?_of_block (w:=w) (hb g o hs (by omega))).trans (hc i hi)
set_option maxHeartbeats 2000000 in
theorem load_any (s : Option Addr) (c lo hi base g cap : Nat) (m : List (List WD)) (l : List Int) (k : Nat) (r : List WD) (late : Int) (hold : Bool) (j : Nat) (x : WD) (w : World) (h : MemR w lo hi s m) (ho : OwnN w base (.slice (some ⟨g, 0, none⟩) l.length cap) l) (hB : hi ≤ w.heap.size) (hav : MemAv w s m g) (hr : Rt m l k r)
  (hlate:late≤9223372036854775807) (hj:mx (l.getD k 0) ((r.length:Int) - 1 - mx late 0)=j) (hx:r[j]? =some x):
  Calls Tryz.prog 123 #[.slice (some ⟨g,0,none⟩) l.length cap,.agg #[.slice s m.length c],.int .i64 k,.int .i64 late,.bool hold] w fun e w'=>e=.returned (.int .i64 x.v)∧OwnN w' base (.slice (some ⟨g,0,none⟩) l.length cap) (if hold=true then joinL (l.set k j) x.vw else l.set k j)∧Exc g (g+1) w w':=by
 have hg:=(World.ownsRow.lt ho g rfl).2
 obtain ⟨gm,om,s1,c1,es,a1,a2,a3,a4⟩:=h.row hr.hr
 subst es
 obtain ⟨gr,or_,s2,c2,es,b1,b2,b3,b4,b5⟩:=a4.at hx
 subst es
 obtain ⟨av1,av2⟩:=hav gm om rfl
 obtain ⟨av3,av4⟩:=av2 k _ _ _ _ (by have:=hr.hk;have:=hr.hm;omega) a3 (by have:=(List.getElem?_eq_some_iff.1 hx).1;omega)
 have av5:∀ g' o',s2=some ⟨g',o',none⟩→0 < x.vw.length→g'≠g:=fun g' o' e hp=>by subst e;exact av4 j g' o' _ _ (List.getElem?_eq_some_iff.1 hx).1 b4 hp
 have HAV:Hid (∀ g' o',s2=some ⟨g',o',none⟩→0 < x.vw.length→g'≠g):=av5
 clear av2 av4 av5
 have hk:=hr.hk
 have hll:=hr.hl
 have hml:=hr.hm
 have hn1:=hr.n1
 have hn2:=hr.n2
 have hjr:=(List.getElem?_eq_some_iff.1 hx).1
 have e1:w.cell? ⟨g,k,none⟩=some (.int .i64 (l.getD k 0)):=ho.cell (by omega)
 have hfz:∀ i,w.frozen? ⟨g,i,none⟩=false:=fun i=>World.ownsRow.frozenAt ho i
 have hv0:=hr.v0
 have hv1:=hr.v1
 have HO:=(show Hid (OwnN w base (.slice (some ⟨g,0,none⟩) l.length cap) l) from ho)
 have HI:Hid (IntsR w lo hi s2 x.vw):=b5
 have hxl:=hr.hw j x hx
 have HXL:Hid (x.vw.length=24):=hxl
 generalize l.getD k 0=y at e1 hv0 hv1 hj
 obtain ⟨q,hq⟩:∃ q:Int,mx late 0=q:=⟨_,rfl⟩
 have hq0:0≤q∧q≤9223372036854775807:=by subst hq;unfold mx;split<;>omega
 rw [hq] at hj
 have hq1:(if 0 > late then 0 else late)=q:=by rw [← hq];unfold mx;rfl
 have hw1:IntKind.i64.wrap ((r.length:Int) - 1 - q)=(r.length:Int) - 1 - q:=Go.IntWalk.i64_in _ (by omega)
 have hj1:(if (r.length:Int) - 1 - q > y then (r.length:Int) - 1 - q else y)=(j:Int):=hj
 have HJ:=(show Hid (mx y ((r.length:Int) - 1 - q)=j) from hj)
 have B0:(0:Int)≤(k:Int):=by omega
 have B1:(k:Int) < (l.length:Int):=by omega
 have B2:(k:Int) < (m.length:Int):=by omega
 have B3:(0:Int)≤(j:Int):=by omega
 have B4:(j:Int) < (r.length:Int):=by omega
 have G1:gm < w.heap.size:=by omega
 have G2:gr < w.heap.size:=by omega
 have HLL:Hid (l.length=24):=hll
 have hl2:l.length≤1048577:=by omega
 clear h a4 b5 hx hj hr ho hq hll hml hxl
 go_enter Tryz.func123,Tryz.ntmps123
 go_wp2_with fail
 obtain ⟨W,hW⟩:∃ W,(w.setCell ⟨g,k,none⟩ (.int .i64 j)).alloc (.cells #[.slice (some ⟨gm,om,none⟩) m.length c] 37)=W:=⟨_,rfl⟩
 have k0:W.cell? ⟨w.heap.size,0,none⟩=some (.slice (some ⟨gm,om,none⟩) m.length c):=by subst hW;simp [go_sem]
 have kW:∀ b,b < w.heap.size→b≠g→W.heap[b]? =w.heap[b]? :=fun b h1 h2=>by subst hW;rw [Below.heap_alloc _ _ _ (by simpa using h1),Below.heap_setCell _ _ _ b h2]
 have k2:W.cell? ⟨gm,om+k,none⟩=some (.slice (some ⟨gr,or_,none⟩) r.length c1):=(World.cell?_of_block (w:=w) (kW gm (by omega) av1)).trans a3
 have k3:W.cell? ⟨gr,or_+j * 2,none⟩=some (.int .i64 x.v):=(World.cell?_of_block (w:=w) (kW gr (by omega) av3)).trans b3
 have k4:W.cell? ⟨gr,or_+j * 2+1,none⟩=some (.slice s2 x.vw.length c2):=(World.cell?_of_block (w:=w) (kW gr (by omega) av3)).trans b4
 have OW:Hid (OwnN W base (.slice (some ⟨g,0,none⟩) l.length cap) (l.set k j)):=by
  subst hW
  have p5:=(World.ownsRow.stored HO.out k (.int .i64 j)).1
  show OwnN _ _ _ _
  refine OwnN.alloc ?_ _
  unfold OwnN
  rw [List.map_set,List.length_set]
  exact p5
 have k1:W.cell? ⟨g,k,none⟩=some (.int .i64 j):=by
  have h1:OwnN W base (.slice (some ⟨g,0,none⟩) (l.set k j).length cap) (l.set k (j:Int)):=by rw [List.length_set];exact OW.out
  rw [h1.cell (i:=k) (by rw [List.length_set];omega)]
  simp [List.getD_eq_getElem?_getD,show k < l.length by omega]
 have EW:Hid (Exc g (g+1) w W):=by
  subst hW
  exact ⟨rfl,rfl,rfl,by simp,fun b h1 h2=>by rw [Below.heap_alloc _ _ _ (by simpa using h1),Below.heap_setCell _ _ _ b (by show b≠g;omega)]⟩
 have zW:w.heap.size < W.heap.size:=by subst hW;simp
 have IW:Hid (IntsR W lo hi s2 x.vw):=HI.out.off (fun g' o' e hp=>kW g' (by rcases HI.out with q | ⟨g2,o2,e2,q1,q2,-⟩;(rw [q] at hp;simp at hp);(rw [e] at e2;injection e2 with e2;injection e2 with e2;omega)) (HAV.out g' o' e hp))
 rw [hW]
 clear hW kW
 have z1:g < W.heap.size:=by omega
 have z2:gm < W.heap.size:=by omega
 have z3:gr < W.heap.size:=by omega
 go_region
 obtain ⟨X,hX⟩:∃ X,(W.alloc (.cells #[.int .i64 x.v,.slice s2 x.vw.length c2] 127)).drew=X:=⟨_,rfl⟩
 have x0:X.cell? ⟨W.heap.size,0,none⟩=some (.int .i64 x.v):=by subst hX;simp [go_sem]
 have x1:X.cell? ⟨W.heap.size,1,none⟩=some (.slice s2 x.vw.length c2):=by subst hX;simp [go_sem]
 have kX:Below W.heap.size W X:=by subst hX;exact Below.drew ((Below.refl _ _).alloc (Nat.le_refl _) _)
 have zX:W.heap.size < X.heap.size:=by subst hX;show W.heap.size < (W.alloc _).heap.size;simp
 rw [hX]
 clear hX k0 k1 k2 k3 k4 a3 b3 b4 e1 hfz
 have OX:Hid (OwnN X base (.slice (some ⟨g,0,none⟩) l.length cap) (l.set k j)):=ownKeep' OW.out (fun b hb=>by have hb2:some g=some b:=hb;injection hb2 with hb2;exact kX.block b (by omega))
 have IX:Hid (IntsR X lo hi s2 x.vw):=IW.out.keep (Keep.of_below kX (by omega))
 have EX:Hid (Exc g (g+1) w X):=by
  obtain ⟨p1,p2,p3,p4,p5⟩:=EW.out
  exact ⟨kX.os.trans p1,kX.tape.trans p2,kX.output.trans p3,by omega,fun b h1 h2=>(kX.block b (by omega)).trans (p5 b h1 h2)⟩
 clear kX
 cases hold
 ·go_wp2
  go_ret
  exact ⟨rfl,OX.out,EX.out⟩
 ·have le:=learn_any base g cap (l.set k j) s2 c2 lo hi x.vw X (by rw [List.length_set];exact OX.out) IX.out (by omega) HAV.out (by rw [List.length_set];omega) (by have:=HXL.out;omega)
  rw [List.length_set] at le
  have HT:Hid (learnL (l.set k (j:Int)) x.vw=joinL (l.set k (j:Int)) x.vw):=learn_join _ _ (by rw [List.length_set,HLL.out,HXL.out];exact Nat.le_refl _)
  go_wp2_with fail
  refine le.mono ?_
  rintro e w3 ⟨rfl,ho3,hx3,hz3⟩
  have y0:w3.cell? ⟨W.heap.size,0,none⟩=some (.int .i64 x.v):=(World.cell?_of_block (w:=X) (hx3.blk W.heap.size zX (.inr (by omega)))).trans x0
  have y1:w3.cell? ⟨W.heap.size,1,none⟩=some (.slice s2 x.vw.length c2):=(World.cell?_of_block (w:=X) (hx3.blk W.heap.size zX (.inr (by omega)))).trans x1
  have HO3:=(show Hid (OwnN w3 base (.slice (some ⟨g,0,none⟩) l.length cap) (learnL (l.set k (j:Int)) x.vw)) from ho3)
  have HX3:Hid (Exc g (g+1) w w3):=by
   obtain ⟨p1,p2,p3,p4,p5⟩:=EX.out
   exact ⟨hx3.os.trans p1,hx3.tape.trans p2,hx3.out.trans p3,by have:=hx3.size;omega,fun b h1 h2=>(hx3.blk b (by omega) h2).trans (p5 b h1 h2)⟩
  have zz:W.heap.size < w3.heap.size:=by omega
  clear ho3 hx3 hz3 le
  go_wp2
  go_ret
  refine ⟨rfl,?_,HX3.out⟩
  have:=HO3.out
  rw [HT.out] at this
  exact this
theorem l1Max_is (a b z:Int) (w:World) (h:mx a b=z):Calls Tryz.prog 100 #[.int .i64 a,.int .i64 b] w fun e w'=>e=.returned (.int .i64 z)∧w'=w:=by
 rw [← h]
 exact l1Max_any a b w
set_option maxHeartbeats 2000000 in
theorem l6Load_any (s s' : Option Addr) (c c' lo hi lo' hi' : Nat) (m : List (List WD)) (l : List Int) (k : Nat) (r : List WD) (late : Int) (hold : Bool) (j : Nat) (x : WD) (w : World) (h : MemR w lo hi s m) (h' : IntsR w lo' hi' s' l) (hB : hi ≤ w.heap.size) (hB' : hi' ≤ w.heap.size) (hr : Rt m l k r)
  (hlate:late≤9223372036854775807) (hj:mx (l.getD k 0) ((r.length:Int) - 1 - mx late 0)=j) (hx:r[j]? =some x):
  Calls Tryz.prog 82 #[.agg #[.slice s m.length c],.slice s' l.length c',.int .i64 k,.int .i64 late,.bool hold] w fun e w'=>∃ v,e=.returned (.tuple #[.int .i64 x.v,v])∧OwnN w' w.heap.size v (if hold=true then joinL (l.set k j) x.vw else l.set k j)∧Below w.heap.size w w':=by
 obtain ⟨gm,om,s1,c1,es,a1,a2,a3,a4⟩:=h.row hr.hr
 subst es
 obtain ⟨gr,or_,s2,c2,es,b1,b2,b3,b4,b5⟩:=a4.at hx
 subst es
 have hk:=hr.hk
 have hll:=hr.hl
 have hml:=hr.hm
 have hn1:=hr.n1
 have hn2:=hr.n2
 have hjr:=(List.getElem?_eq_some_iff.1 hx).1
 obtain ⟨gv,ov,es,f1,f2,f3⟩:=h'.pos (by omega)
 subst es
 have e1:=f3 k (by omega)
 have hv0:=hr.v0
 have hv1:=hr.v1
 have H:Hid (MemR w lo hi (some ⟨gm,om,none⟩) m):=h
 have H':Hid (IntsR w lo' hi' (some ⟨gv,ov,none⟩) l):=h'
 have HI:Hid (IntsR w lo hi s2 x.vw):=b5
 have hxl:=hr.hw j x hx
 have HXL:Hid (x.vw.length=24):=hxl
 have HLL:Hid (l.length=24):=hll
 have hl2:l.length≤1048577:=by omega
 generalize l.getD k 0=y at e1 hv0 hv1 hj
 obtain ⟨q,hq⟩:∃ q:Int,mx late 0=q:=⟨_,rfl⟩
 have hq0:0≤q∧q≤9223372036854775807:=by subst hq;unfold mx;split<;>omega
 rw [hq] at hj
 have HQ:Hid (mx late 0=q):=hq
 have HJ:Hid (mx ((r.length:Int) - 1 - q) y=j):=by show mx _ _=_;rw [mx_comm];exact hj
 have hw1:IntKind.i64.wrap ((r.length:Int) - 1 - q)=(r.length:Int) - 1 - q:=Go.IntWalk.i64_in _ (by omega)
 have hw0:IntKind.i64.wrap ((r.length:Int) - 1)=(r.length:Int) - 1:=Go.IntWalk.i64_in _ (by omega)
 have HJ2:Hid (mx (IntKind.i64.wrap (IntKind.i64.wrap ((r.length:Int) - 1) - q)) y=j):=by show mx _ _=_;rw [hw0,hw1];exact HJ.out
 have HJ3:Hid (mx (IntKind.i64.wrap ((r.length:Int) - 1 - q)) y=j):=by show mx _ _=_;rw [hw1];exact HJ.out
 clear hw0 hw1
 have B0:(0:Int)≤(k:Int):=by omega
 have B1:(k:Int) < (l.length:Int):=by omega
 have B2:(k:Int) < (m.length:Int):=by omega
 have B3:(0:Int)≤(j:Int):=by omega
 have B4:(j:Int) < (r.length:Int):=by omega
 have G1:gm < w.heap.size:=by omega
 have G2:gr < w.heap.size:=by omega
 have G3:gv < w.heap.size:=by omega
 clear h h' a4 b5 hx hj hr hq hll hml hxl f3
 go_enter Tryz.func82,Tryz.ntmps82
 go_wp2_with fail
 obtain ⟨W,hW,bx,kb,zb⟩:=Bo1.new w (.slice (some ⟨gm,om,none⟩) m.length c) 37
 rw [hW]
 clear hW
 have c0:=bx.c0
 have HKB:Hid (Below w.heap.size w W):=kb
 have z0:w.heap.size < W.heap.size:=by omega
 have k1:=(kb.cell (p:=⟨gm,om+k,none⟩) G1).trans a3
 have k2:=(kb.cell (p:=⟨gr,or_+j * 2,none⟩) G2).trans b3
 have k3:=(kb.cell (p:=⟨gr,or_+j * 2+1,none⟩) G2).trans b4
 have k4:=(kb.cell (p:=⟨gv,ov+k,none⟩) G3).trans e1
 have IW:Hid (IntsR W lo hi s2 x.vw):=HI.out.keep (Keep.of_below kb hB)
 have LW:Hid (IntsR W lo' hi' (some ⟨gv,ov,none⟩) l):=H'.out.keep (Keep.of_below kb hB')
 have y1:gm < W.heap.size:=by omega
 have y2:gr < W.heap.size:=by omega
 have y3:gv < W.heap.size:=by omega
 have y4:hi≤W.heap.size:=by omega
 clear bx kb zb a3 b3 b4 e1
 go_quiet (first | (go_at_call 100;exact Calls.quiet_of_same (l1Max_is _ _ _ _ HQ.out)) | (go_at_call 100;exact Calls.quiet_of_same (l1Max_is _ _ _ _ HJ.out)) | (go_at_call 100;exact Calls.quiet_of_same (l1Max_is _ _ _ _ HJ2.out)) | (go_at_call 100;exact Calls.quiet_of_same (l1Max_is _ _ _ _ HJ3.out)))
 obtain ⟨Y,hY⟩:∃ Y,W.drewN nq=Y:=⟨_,rfl⟩
 have kY:Below W.heap.size W Y:=by rw [← hY];exact below_drewN _ _
 have zY:=kY.size
 rw [hY]
 clear hY
 have HKY:Hid (Below w.heap.size w Y):=HKB.out.trans (kY.mono (by omega))
 have m1:=(kY.cell (p:=⟨gm,om+k,none⟩) y1).trans k1
 have m2:=(kY.cell (p:=⟨gr,or_+j * 2,none⟩) y2).trans k2
 have m3:=(kY.cell (p:=⟨gr,or_+j * 2+1,none⟩) y2).trans k3
 have IY:Hid (IntsR Y lo hi s2 x.vw):=IW.out.keep (Keep.of_below kY (by omega))
 have LY:Hid (IntsR (Y.alloc (.cells #[] 3)) lo' hi' (some ⟨gv,ov,none⟩) l):=LW.out.keep (Keep.of_below (kY.trans (((Below.refl _ _).alloc (Nat.le_refl _) _).mono zY)) (by omega))
 have w2:gr < Y.heap.size:=by omega
 have w4:hi≤Y.heap.size:=by omega
 clear kY k1 k2 k3 k4 c0 m1
 cases hold
 ·go_wp2_with (at_builtin;refine app_copyI rfl _ _ rfl rfl _ Y.heap.size (some ⟨Y.heap.size,0,none⟩) 0 rfl (ownN_empty (Nat.le_refl _)) (some ⟨gv,ov,none⟩) c' l rfl LY.out (by omega) (by simp) ?_;intro s5 c5 w5 ho5 hc5;obtain ⟨g5,cap5,e5,-⟩:=World.ownsRow.form ho5 (by omega);injection e5 with e51 e52 e53;subst e51;have q0:w5.cell? ⟨g5,k,none⟩=some (.int .i64 (l.getD k 0)):=ho5.cell (by omega);have q1:w5.frozen? ⟨g5,k,none⟩=false:=World.ownsRow.frozenAt ho5 k;have q9:=(World.ownsRow.lt ho5 g5 rfl);have hb5:Below Y.heap.size Y w5:=((Below.refl _ _).alloc (Nat.le_refl _) _).trans hc5.low;have q2:=(hb5.cell (p:=⟨gr,or_+j * 2,none⟩) w2).trans m2;have q3:=(hb5.cell (p:=⟨gr,or_+j * 2+1,none⟩) w2).trans m3;have q4:¬ g5=gr:=(by omega);have q5:¬ gr=g5:=(by omega);have HO5:=(show Hid (OwnN w5 Y.heap.size (.slice (some ⟨g5,0,none⟩) l.length c5) l) from ho5);have HB5:Hid (Below Y.heap.size Y w5):=hb5;clear ho5 hc5 hb5 e53)
  have st:OwnN (w5.setCell ⟨g5,k,none⟩ (.int .i64 j)) Y.heap.size (.slice (some ⟨g5,0,none⟩) l.length c5) (l.set k j):=by
   have p5:=(World.ownsRow.stored HO5.out k (.int .i64 j)).1
   unfold OwnN
   rw [List.map_set,List.length_set]
   exact p5
  have kb:Below Y.heap.size Y (w5.setCell ⟨g5,k,none⟩ (.int .i64 j)):=HB5.out.setCell (p:=⟨g5,k,none⟩) q9.1 _
  go_ret2
  exact ⟨_,rfl,ownLow' st (by have:=HKY.out.size;omega),HKY.out.trans (kb.mono HKY.out.size)⟩
 ·go_wp2_with (first | (at_builtin;refine app_copyI rfl _ _ rfl rfl _ Y.heap.size (some ⟨Y.heap.size,0,none⟩) 0 rfl (ownN_empty (Nat.le_refl _)) (some ⟨gv,ov,none⟩) c' l rfl LY.out (by omega) (by simp) ?_;intro s5 c5 w5 ho5 hc5;obtain ⟨g5,cap5,e5,-⟩:=World.ownsRow.form ho5 (by omega);injection e5 with e51 e52 e53;subst e51;have q0:w5.cell? ⟨g5,k,none⟩=some (.int .i64 (l.getD k 0)):=ho5.cell (by omega);have q1:w5.frozen? ⟨g5,k,none⟩=false:=World.ownsRow.frozenAt ho5 k;have q9:=(World.ownsRow.lt ho5 g5 rfl);have hb5:Below Y.heap.size Y w5:=((Below.refl _ _).alloc (Nat.le_refl _) _).trans hc5.low;have q2:=(hb5.cell (p:=⟨gr,or_+j * 2,none⟩) w2).trans m2;have q3:=(hb5.cell (p:=⟨gr,or_+j * 2+1,none⟩) w2).trans m3;have q4:¬ g5=gr:=(by omega);have q5:¬ gr=g5:=(by omega);have HO5:=(show Hid (OwnN w5 Y.heap.size (.slice (some ⟨g5,0,none⟩) l.length c5) l) from ho5);have HB5:Hid (Below Y.heap.size Y w5):=hb5;clear ho5 hc5 hb5 e53) | fail)
  have st:OwnN (w5.setCell ⟨g5,k,none⟩ (.int .i64 j)) Y.heap.size (.slice (some ⟨g5,0,none⟩) l.length c5) (l.set k j):=by
   have p5:=(World.ownsRow.stored HO5.out k (.int .i64 j)).1
   unfold OwnN
   rw [List.map_set,List.length_set]
   exact p5
  have kb:Below Y.heap.size Y (w5.setCell ⟨g5,k,none⟩ (.int .i64 j)):=HB5.out.setCell (p:=⟨g5,k,none⟩) q9.1 _
  obtain ⟨X,hX⟩:∃ X,w5.setCell ⟨g5,k,none⟩ (.int .i64 j)=X:=⟨_,rfl⟩
  rw [hX] at st kb
  rw [hX]
  have n2:=(kb.cell (p:=⟨gr,or_+j * 2,none⟩) w2).trans m2
  have zX:=kb.size
  have OX:Hid (IntsR X Y.heap.size X.heap.size (some ⟨g5,0,none⟩) (l.set k (j:Int))):=ownN_intsR (c:=c5) (by rw [List.length_set];exact st)
  have IX:Hid (IntsR X lo hi s2 x.vw):=IY.out.keep (Keep.of_below kb (by omega))
  have HKX:Hid (Below Y.heap.size Y X):=kb
  have zg:gr < X.heap.size:=by omega
  clear hX st kb q0 q1 q2 q3
  have jn:=specJoin_any (some ⟨g5,0,none⟩) s2 c5 c2 _ _ lo hi (l.set k (j:Int)) x.vw X OX.out IX.out (by rw [List.length_set];omega) (by have:=HXL.out;omega) (Nat.le_refl _) (by omega)
  rw [List.length_set] at jn
  refine jn.mono ?_
  rintro e w6 ⟨v6,rfl,ho6,hb6⟩
  have n3:=(hb6.cell (p:=⟨gr,or_+j * 2,none⟩) zg).trans n2
  have HO6:=(show Hid _ from ho6)
  have HB6:Hid (Below X.heap.size X w6):=hb6
  have z6:=hb6.size
  have zg6:gr < w6.heap.size:=by omega
  clear ho6 hb6 jn n2
  go_wp2
  go_ret2
  exact ⟨_,rfl,ownLow' HO6.out (by have:=HKY.out.size;omega),HKY.out.trans ((HKX.out.trans (HB6.out.mono (by omega))).mono HKY.out.size)⟩
end
end Go.Proofs.YtepfpbcjklaenaaGreat
