/- The draws of chapter 1 of a place: each makes a place of five numbers, and turns the cursor's own block alone. Conditions: the cursor and its bytes lie in memory as the reading says. -/
import Derived.Test.YtkhjhibigldcgaaLG00
import Derived.Test.YtkhjhibigldcgaaLG08
namespace Go.Proofs.Ytkhjhibigldcgaa
set_option linter.unusedSimpArgs false
set_option linter.unusedVariables false
set_option maxRecDepth 100000
open Go.RowKit
theorem Cur.but {w w':World} {p n c:Nat} {s:Option Addr} (h:Cur w p s n c) (hb:Below w.heap.size w w'):Cur w' p s n c:=by
 obtain ⟨i,h,c0,c1,c2,hf,hi,hi',hp⟩:=h
 exact ⟨i,h,(hb.cell (p:=⟨p,0,none⟩) hp).trans c0,(hb.cell (p:=⟨p,1,none⟩) hp).trans c1,(hb.cell (p:=⟨p,2,none⟩) hp).trans c2,fun j=>(hb.frozen (p:=⟨p,j,none⟩) hp).trans (hf j),hi,hi',by have:=hb.size;omega⟩
theorem Cur.lt {w:World} {p n c:Nat} {s:Option Addr} (h:Cur w p s n c):p < w.heap.size:=by
 obtain ⟨i,h,c0,c1,c2,hf,hi,hi',hp⟩:=h
 exact hp
theorem Cur.set {w:World} {p n c:Nat} {s:Option Addr} {a:Addr} {v:Value} (h:Cur w p s n c) (ha:a.block≠p):Cur (w.setCell a v) p s n c:=by
 obtain ⟨i,h,c0,c1,c2,hf,hi,hi',hp⟩:=h
 have e:∀ j,(w.setCell a v).cell? ⟨p,j,none⟩=w.cell? ⟨p,j,none⟩:=fun j=>by
  apply World.cell?_setCell_other
  intro e
  subst e
  exact ha rfl
 exact ⟨i,h,(e 0).trans c0,(e 1).trans c1,(e 2).trans c2,fun j=>by rw [World.frozen?_setCell];exact hf j,hi,hi',by simpa using hp⟩
theorem Bytes.below {w w':World} {p n B:Nat} {s:Option Addr} (h:Bytes w p s n) (hb:Below B w w') (hp:p≤B):Bytes w' p s n:=by
 rcases h with h | ⟨g,o,hs,hg,hc⟩
 ·exact .inl h
 ·refine .inr ⟨g,o,hs,hg,fun k hk=>?_⟩
  obtain ⟨b,h1,h2⟩:=hc k hk
  exact ⟨b,(hb.cell (p:=⟨g,o+k,none⟩) (by show g < _;omega)).trans h1,h2⟩
/- the cursor and the bytes together -/
def CBx158 (w:World) (p:Nat) (s:Option Addr) (n c:Nat):Prop:=Cur w p s n c∧Bytes w p s n∧n≤maxLen
theorem CBx158.lt {w:World} {p n c:Nat} {s:Option Addr} (h:CBx158 w p s n c):p < w.heap.size:=h.1.lt
theorem CBx158.alloc {w:World} {p n c:Nat} {s:Option Addr} (h:CBx158 w p s n c) (o:Obj):CBx158 (w.alloc o) p s n c:=
 ⟨h.1.but ((Below.refl _ _).alloc (Nat.le_refl _) _),h.2.1.below ((Below.refl w.heap.size w).alloc (Nat.le_refl _) o) (Nat.le_of_lt h.1.lt),h.2.2⟩
theorem CBx158.keep {w w':World} {p n c:Nat} {s:Option Addr} (h:CBx158 w p s n c) (hb:Below w.heap.size w w'):CBx158 w' p s n c:=
 ⟨h.1.but hb,h.2.1.below hb (Nat.le_of_lt h.1.lt),h.2.2⟩
theorem CBx158.set {w:World} {p n c:Nat} {s:Option Addr} {a:Addr} {v:Value} (h:CBx158 w p s n c) (ha:p < a.block):CBx158 (w.setCell a v) p s n c:=
 ⟨h.1.set (by omega),h.2.1.below ((Below.refl a.block w).setCell (p:=a) (Nat.le_refl _) v) (by omega),h.2.2⟩
theorem below_cb (p : Nat) (s : Option Addr) (n c : Nat) (q : Int) (w : World) (h : CBx158 w p s n c) (hq0 : 0 < q) (hq : q ≤ 256) :
  Calls Try.prog 17 #[.pointer (some ⟨p,0,none⟩),.int .i64 q] w fun e w'=>∃ x:Int,e=.returned (.int .i64 x)∧0≤x∧x < q∧CBx158 w' p s n c∧But p w w':=by
 refine (l1Below_t p s n c q w h.1 h.2.1 h.2.2 hq0 hq).mono ?_
 rintro e w' ⟨x,rfl,x0,x1,hc,hb⟩
 exact ⟨x,rfl,x0,x1,⟨hc,h.2.1.but hb (Nat.le_of_lt h.lt),h.2.2⟩,hb⟩
theorem max_any (a b:Int) (w:World):Calls Try.prog 50 #[.int .i64 a,.int .i64 b] w fun e w'=>e=.returned (.int .i64 (if b < a then a else b))∧w'=w:=by
 by_cases h:b < a
 ·rw [if_pos h]
  go_enter Try.func50,Try.ntmps50
  go_wp2
  go_ret
  exact ⟨rfl,rfl⟩
 ·rw [if_neg h]
  go_enter Try.func50,Try.ntmps50
  go_wp2
  go_ret
  exact ⟨rfl,rfl⟩
set_option maxHeartbeats 400000 in
theorem once_cb (p : Nat) (s : Option Addr) (n c : Nat) (q : Int) (w : World) (h : CBx158 w p s n c) (hq0 : 0 < q) (hq : q ≤ 256) :
  Calls Try.prog 35 #[.pointer (some ⟨p,0,none⟩),.int .i64 q] w fun e w'=>∃ x:Bool,e=.returned (.bool x)∧CBx158 w' p s n c∧But p w w':=by
 have H:Hid (CBx158 w p s n c):=h
 clear h
 go_enter Try.func35,Try.ntmps35
 go_wp2_with fail
 refine (below_cb p s n c q w H.out hq0 hq).mono ?_
 rintro e w1 ⟨x,rfl,x0,x1,hc,hb⟩
 have HC:Hid (CBx158 w1 p s n c):=hc
 clear hc
 go_wp2
 go_ret
 exact ⟨_,rfl,HC.out,hb⟩
/- a slice literal of integers, picked from -/
set_option maxHeartbeats 400000 in
theorem pick_cb (p : Nat) (s : Option Addr) (n c : Nat) (g m : Nat) (l : List Int) (w : World) (h : CBx158 w p s n c) (hm : m = l.length) (hl0 : 0 < l.length) (hl : l.length ≤ 256) (hg : g < w.heap.size) (hgp : g ≠ p) (hcell : ∀ i, i < l.length → w.cell? ⟨g, 0 + i, none⟩ = some (.int .i64 (l.getD i 0))) :
  Calls Try.prog 33 #[.pointer (some ⟨p,0,none⟩),.slice (some ⟨g,0,none⟩) m m] w fun e w'=>∃ x:Int,e=.returned (.int .i64 x)∧x∈l∧CBx158 w' p s n c∧But p w w':=by
 subst hm
 have H:Hid (CBx158 w p s n c):=h
 have HC:Hid (∀ i,i < l.length→w.cell? ⟨g,0+i,none⟩=some (.int .i64 (l.getD i 0))):=hcell
 clear h hcell
 go_enter Try.func33,Try.ntmps33
 go_wp2_with fail
 refine (below_cb p s n c (l.length:Int) w H.out (by omega) (by omega)).mono ?_
 rintro e w1 ⟨x,rfl,x0,x1,hc,hb⟩
 obtain ⟨k,rfl⟩:=Int.eq_ofNat_of_zero_le x0
 have hk:k < l.length:=by omega
 have f0:=(hb.cell (p:=⟨g,0+k,none⟩) hg hgp).trans (HC.out k hk)
 rw [Nat.zero_add] at f0
 have HM:Hid (l.getD k 0∈l):=by
  show _∈_
  rw [List.getD_eq_getElem?_getD,List.getElem?_eq_getElem hk]
  exact List.getElem_mem hk
 generalize l.getD k 0=y at f0 HM
 have HC1:Hid (CBx158 w1 p s n c):=hc
 clear hc
 go_wp2
 go_ret
 exact ⟨y,rfl,HM.out,HC1.out,hb⟩
set_option maxHeartbeats 1000000 in
theorem new_cb (s : Option Addr) (n c : Nat) (w : World) (hb : Bytes w w.heap.size s n) (hn : n ≤ maxLen) :
  Calls Try.prog 15 #[.slice s n c] w fun e w'=>e=.returned (.pointer (some ⟨w.heap.size,0,none⟩))∧CBx158 w' w.heap.size s n c∧Below w.heap.size w w'∧w'.heap.size=w.heap.size+1:=by
 have HB:Hid (Bytes w w.heap.size s n):=hb
 have HN:Hid (n≤maxLen):=hn
 clear hb
 unfold maxLen at hn
 go_enter Try.func15,Try.ntmps15
 go_wp2
 go_loop [3,4] (fun a i=>∃ (k:Nat) (x:Int),k≤n∧k≤4000∧i=.int .i64 k∧a=.int .i64 x) (fun _ i=>n - (intOf i).toNat)
 case atStart=>exact ⟨0,_,Nat.zero_le _,by omega,rfl,rfl⟩
 case round=>
  obtain ⟨k,x,hk,hk',rfl,rfl⟩:=hrel
  by_cases h:k < n∧k < 4000
  ·obtain ⟨h1,h2⟩:=h
   obtain ⟨g,off,hs,hc⟩:∃ g off,s=some ⟨g,off,none⟩∧∃ b:Int,w.cell? ⟨g,off+k,none⟩=some (.int .u8 b)∧0≤b∧b≤255:=by
    rcases HB.out with h | ⟨g,off,a,b,d⟩
    ·omega
    ·exact ⟨g,off,a,d k h1⟩
   subst hs
   obtain ⟨b,f0,b0,b1⟩:=hc
   have i0:(0:Int)≤(k:Int):=by omega
   have i1:(k:Int) < (n:Int):=by omega
   have i2:(k:Int) < 4000:=by omega
   go_wp2
   go_round
   case rel=>exact ⟨k+1,_,by omega,by omega,by go_num,rfl⟩
   case measure=>simp [intOf];omega
  ·have i2:(k:Int) < (n:Int)→¬ (k:Int) < 4000:=by omega
   by_cases h1:k < n
   ·have i1:(k:Int) < (n:Int):=by omega
    have i3:¬ (k:Int) < 4000:=by omega
    clear i2 h
    go_wp2
    go_ret
    refine ⟨rfl,⟨?_,HB.out.below ((Below.refl w.heap.size w).alloc (Nat.le_refl _) _) (Nat.le_refl _),HN.out⟩,(Below.refl _ _).alloc (Nat.le_refl _) _,by simp⟩
    exact ⟨0,x,by simp [go_sem],by simp [go_sem],by simp [go_sem],fun j=>by simp [go_sem],by omega,by omega,by simp⟩
   ·have i1:¬ (k:Int) < (n:Int):=by omega
    clear i2 h
    go_wp2
    go_ret
    refine ⟨rfl,⟨?_,HB.out.below ((Below.refl w.heap.size w).alloc (Nat.le_refl _) _) (Nat.le_refl _),HN.out⟩,(Below.refl _ _).alloc (Nat.le_refl _) _,by simp⟩
    exact ⟨0,x,by simp [go_sem],by simp [go_sem],by simp [go_sem],fun j=>by simp [go_sem],by omega,by omega,by simp⟩
end Go.Proofs.Ytkhjhibigldcgaa
