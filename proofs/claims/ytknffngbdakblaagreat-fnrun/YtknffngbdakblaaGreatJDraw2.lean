/- l1New, l1DrawIns, l1Spoil: a place is drawn; the cursor's own block alone is turned. Conditions: the cursor and its bytes lie in memory as the reading says; 1 to 256 places, 0 to 256 channels. -/
import Derived.Test.YtknffngbdakblaaGreatJG00
import Derived.Test.YtknffngbdakblaaGreatJG01
namespace Go.Proofs.YtknffngbdakblaaGreat
set_option linter.unusedSimpArgs false
set_option linter.unusedVariables false
set_option maxRecDepth 100000
open Go.RowKit
def Res (w:World) (R:Nat):Prop:=(∀ j,j < 5→(w.cell? ⟨R,j,none⟩).isSome=true)∧(∀ j,w.frozen? ⟨R,j,none⟩=false)∧R < w.heap.size
theorem Res.but {w w':World} {R p:Nat} (h:Res w R) (hb:But p w w') (hp:R≠p):Res w' R:=
 ⟨fun j hj=>by rw [hb.cell (p:=⟨R,j,none⟩) h.2.2 hp];exact h.1 j hj,fun j=>by rw [hb.frozen (p:=⟨R,j,none⟩) h.2.2 hp];exact h.2.1 j,by have:=hb.size;have:=h.2.2;omega⟩
theorem Res.at {w:World} {R:Nat} (h:Res w R):∃ u0 u1 u2 u3 u4,w.cell? ⟨R,0,none⟩=some u0∧w.cell? ⟨R,1,none⟩=some u1∧w.cell? ⟨R,2,none⟩=some u2∧w.cell? ⟨R,3,none⟩=some u3∧w.cell? ⟨R,4,none⟩=some u4:=by
 obtain ⟨u0,h0⟩:=Option.isSome_iff_exists.1 (h.1 0 (by omega))
 obtain ⟨u1,h1⟩:=Option.isSome_iff_exists.1 (h.1 1 (by omega))
 obtain ⟨u2,h2⟩:=Option.isSome_iff_exists.1 (h.1 2 (by omega))
 obtain ⟨u3,h3⟩:=Option.isSome_iff_exists.1 (h.1 3 (by omega))
 obtain ⟨u4,h4⟩:=Option.isSome_iff_exists.1 (h.1 4 (by omega))
 exact ⟨u0,u1,u2,u3,u4,h0,h1,h2,h3,h4⟩
theorem res_new (w:World) (v0 v1 v2 v3 v4:Value) (T:TypeId):Res (w.alloc (.cells #[v0,v1,v2,v3,v4] T)) w.heap.size:=by
 refine ⟨fun j hj=>?_,fun j=>by simp [go_sem],by simp⟩
 match j,hj with
 | 0,_=>simp [go_sem]
 | 1,_=>simp [go_sem]
 | 2,_=>simp [go_sem]
 | 3,_=>simp [go_sem]
 | 4,_=>simp [go_sem]
def set5v (w:World) (R:Nat) (v0 v1 v2 v3 v4:Value):World:=((((w.setCell ⟨R,0,none⟩ v0).setCell ⟨R,1,none⟩ v1).setCell ⟨R,2,none⟩ v2).setCell ⟨R,3,none⟩ v3).setCell ⟨R,4,none⟩ v4
theorem CB.set5v {w:World} {p n c R:Nat} {s:Option Addr} {v0 v1 v2 v3 v4:Value} (h:CB w p s n c) (hR:p < R):CB (set5v w R v0 v1 v2 v3 v4) p s n c:=((((h.set hR).set hR).set hR).set hR).set hR
/- the state of a draw: the cursor, the place of the answer, what was there -/
structure Dr (w0 w:World) (p:Nat) (s:Option Addr) (n c R:Nat):Prop where
 cb:CB w p s n c
 res:Res w R
 but:But p w0 w
 pR:p < R
 old:w0.heap.size≤R
theorem dr_below {w0 : World} {p n c R : Nat} {s : Option Addr} (q : Int) (w : World) (h : Dr w0 w p s n c R) (hq0 : 0 < q) (hq : q ≤ 256) :
  Calls Tryz.prog 25 #[.pointer (some ⟨p,0,none⟩),.int .i64 q] w fun e w'=>∃ x:Int,e=.returned (.int .i64 x)∧0≤x∧x < q∧Dr w0 w' p s n c R:=by
 refine (below_cb p s n c q w h.cb hq0 hq).mono ?_
 rintro e w' ⟨x,rfl,x0,x1,hc,hb⟩
 have:=h.pR
 exact ⟨x,rfl,x0,x1,hc,h.res.but hb (by omega),h.but.trans hb,h.pR,h.old⟩
theorem dr_once {w0 : World} {p n c R : Nat} {s : Option Addr} (q : Int) (w : World) (h : Dr w0 w p s n c R) (hq0 : 0 < q) (hq : q ≤ 256) :
  Calls Tryz.prog 26 #[.pointer (some ⟨p,0,none⟩),.int .i64 q] w fun e w'=>∃ x:Bool,e=.returned (.bool x)∧Dr w0 w' p s n c R:=by
 refine (once_cb p s n c q w h.cb hq0 hq).mono ?_
 rintro e w' ⟨x,rfl,hc,hb⟩
 have:=h.pR
 exact ⟨x,rfl,hc,h.res.but hb (by omega),h.but.trans hb,h.pR,h.old⟩
theorem but_set5v {w0 w:World} {p R:Nat} {v0 v1 v2 v3 v4:Value} (h:But p w0 w) (hR:w0.heap.size≤R):But p w0 (set5v w R v0 v1 v2 v3 v4):=by
 have b:Below w0.heap.size w (set5v w R v0 v1 v2 v3 v4):=(((((Below.refl _ _).setCell (p:=⟨R,0,none⟩) hR _).setCell (p:=⟨R,1,none⟩) hR _).setCell (p:=⟨R,2,none⟩) hR _).setCell (p:=⟨R,3,none⟩) hR _).setCell (p:=⟨R,4,none⟩) hR _
 exact ⟨b.os.trans h.os,b.tape.trans h.tape,b.output.trans h.output,Nat.le_trans h.size b.size,fun k hk hp=>(b.block k hk).trans (h.block k hk hp)⟩
set_option maxHeartbeats 1000000 in
theorem new_cb (s : Option Addr) (n c : Nat) (w : World) (hb : Bytes w w.heap.size s n) (hn : n ≤ maxLen) :
  Calls Tryz.prog 23 #[.slice s n c] w fun e w'=>e=.returned (.pointer (some ⟨w.heap.size,0,none⟩))∧CB w' w.heap.size s n c∧Below w.heap.size w w'∧w'.heap.size=w.heap.size+1:=by
 have HB:Hid (Bytes w w.heap.size s n):=hb
 have HN:Hid (n≤maxLen):=hn
 clear hb
 unfold maxLen at hn
 go_enter Tryz.func23,Tryz.ntmps23
 go_wp2
 go_loop [3,4] (fun a i=>∃ (k:Nat) (x:Int),k≤n∧k≤4000∧i=.int .i64 k∧a=.int .i64 x) (fun _ i=>n - (intOf i).toNat)
 case atStart=>exact ⟨0,_,Nat.zero_le _,by omega,rfl,rfl⟩
 case round=>
  obtain ⟨k,x,hk,hk',rfl,rfl⟩:=hrel
  by_cases h:k < n∧k < 4000
  ·obtain ⟨h1,h2⟩:=h
   obtain ⟨g,off,hs,hc⟩:∃ g off,s=some ⟨g,off,none⟩∧∃ b:Int,w.cell? ⟨g,off+k,none⟩=some (.int .u8 b)∧0≤b∧b≤255:=by
    rcases HB.out with h | ⟨g,off,a,b,d⟩
    ·omega
    ·exact ⟨g,off,a,d k h1⟩
   subst hs
   obtain ⟨b,f0,b0,b1⟩:=hc
   have i0:(0:Int)≤(k:Int):=by omega
   have i1:(k:Int) < (n:Int):=by omega
   have i2:(k:Int) < 4000:=by omega
   go_wp2
   go_round
   case rel=>exact ⟨k+1,_,by omega,by omega,by go_num,rfl⟩
   case measure=>simp [intOf];omega
  ·have i2:(k:Int) < (n:Int)→¬ (k:Int) < 4000:=by omega
   by_cases h1:k < n
   ·have i1:(k:Int) < (n:Int):=by omega
    have i3:¬ (k:Int) < 4000:=by omega
    clear i2 h
    go_wp2
    go_ret
    refine ⟨rfl,⟨?_,HB.out.below ((Below.refl w.heap.size w).alloc (Nat.le_refl _) _) (Nat.le_refl _),HN.out⟩,(Below.refl _ _).alloc (Nat.le_refl _) _,by simp⟩
    exact ⟨0,x,by simp [go_sem],by simp [go_sem],by simp [go_sem],fun j=>by simp [go_sem],by omega,by omega,by simp⟩
   ·have i1:¬ (k:Int) < (n:Int):=by omega
    clear i2 h
    go_wp2
    go_ret
    refine ⟨rfl,⟨?_,HB.out.below ((Below.refl w.heap.size w).alloc (Nat.le_refl _) _) (Nat.le_refl _),HN.out⟩,(Below.refl _ _).alloc (Nat.le_refl _) _,by simp⟩
    exact ⟨0,x,by simp [go_sem],by simp [go_sem],by simp [go_sem],fun j=>by simp [go_sem],by omega,by omega,by simp⟩
set_option maxRecDepth 100000 in
set_option maxHeartbeats 4000000 in
theorem drawIns_cb (p : Nat) (s : Option Addr) (n c : Nat) (pl ch : Int) (w : World) (h : CB w p s n c) (hp0 : 0 < pl) (hp : pl ≤ 256) (hc0 : 0 ≤ ch) (hc : ch ≤ 256) :
  Calls Tryz.prog 96 #[.pointer (some ⟨p,0,none⟩),.int .i64 pl,.int .i64 ch] w fun e w'=>∃ o r a b m:Int,e=.returned (.agg #[.int .i64 o,.int .i64 r,.int .i64 a,.int .i64 b,.int .i64 m])∧CB w' p s n c∧But p w w':=by
 have H0:Hid (Dr w (w.alloc (.cells #[.int .i64 0,.int .i64 0,.int .i64 0,.int .i64 0,.int .i64 0] 85)) p s n c w.heap.size):=⟨h.alloc _,res_new _ _ _ _ _ _ _,(But.refl _ _).alloc _,h.lt,Nat.le_refl _⟩
 clear h
 go_enter Tryz.func96,Tryz.ntmps96
 go_wp2_with fail
 refine (dr_below 4 _ H0.out (by omega) (by omega)).mono ?_
 rintro e w1 ⟨r,rfl,r0,r1,hst⟩
 have H1:Hid (Dr w w1 p s n c w.heap.size):=hst
 clear hst
 go_wp2_with fail
 refine (dr_below 4 _ H1.out (by omega) (by omega)).mono ?_
 rintro e w2 ⟨a,rfl,a0,a1,hst⟩
 have H2:Hid (Dr w w2 p s n c w.heap.size):=hst
 clear hst
 go_wp2_with fail
 refine (dr_below 4 _ H2.out (by omega) (by omega)).mono ?_
 rintro e w3 ⟨b,rfl,b0,b1,hst⟩
 have H3:Hid (Dr w w3 p s n c w.heap.size):=hst
 clear hst
 go_wp2_with fail
 refine (max_any ch 1 _).mono ?_
 rintro e w3' ⟨rfl,hw⟩
 have hw':=hw.symm
 clear hw
 subst hw'
 have hm0:0 < (if (1:Int) < ch then ch else 1):=by split<;>omega
 have hm1:(if (1:Int) < ch then ch else 1)≤256:=by split<;>omega
 generalize (if (1:Int) < ch then ch else 1)=q at hm0 hm1
 go_wp2_with fail
 refine (dr_below q _ H3.out (by omega) (by omega)).mono ?_
 rintro e w4 ⟨m,rfl,m0,m1,hst⟩
 have H4:Hid (Dr w w4 p s n c w.heap.size):=hst
 clear hst
 go_wp2_with fail
 refine (dr_below 16 _ H4.out (by omega) (by omega)).mono ?_
 rintro e w5 ⟨t,rfl,t0,t1,hst⟩
 have H5:Hid (Dr w w5 p s n c w.heap.size):=hst
 clear hst
 clear H0 H1 H2 H3 H4
 have ht:t=0∨t=1∨t=2∨t=3∨t=4∨t=5∨t=6∨t=7∨t=8∨t=9∨t=10∨t=11∨t=12∨t=13∨t=14∨t=15:=by omega
 clear t0 t1
 rcases ht with rfl | rfl | rfl | rfl | rfl | rfl | rfl | rfl | rfl | rfl | rfl | rfl | rfl | rfl | rfl | rfl
 ·go_wp2_with fail
  refine (dr_below 9 _ H5.out (by omega) (by omega)).mono ?_
  rintro e w6 ⟨x,rfl,x0,x1,hst⟩
  have H6:Hid (Dr w w6 p s n c w.heap.size):=hst
  clear hst
  obtain ⟨u0,u1,u2,u3,u4,g0,g1,g2,g3,g4⟩:=H6.out.res.at
  have z:=H6.out.res.2.1
  go_wp2
  exact bodyPost_ret (v:=.agg #[.int .i64 1,.int .i64 r,.int .i64 0,.int .i64 0,.int .i64 (x - 2)]) (by simp [results,Tryz.results96,go_sem,g0,g1,g2,g3,g4]) rfl ⟨_,_,_,_,_,rfl,H6.out.cb.set5v H6.out.pR,but_set5v H6.out.but H6.out.old⟩
 ·go_wp2_with fail
  refine (dr_below 9 _ H5.out (by omega) (by omega)).mono ?_
  rintro e w6 ⟨x,rfl,x0,x1,hst⟩
  have H6:Hid (Dr w w6 p s n c w.heap.size):=hst
  clear hst
  obtain ⟨u0,u1,u2,u3,u4,g0,g1,g2,g3,g4⟩:=H6.out.res.at
  have z:=H6.out.res.2.1
  go_wp2
  exact bodyPost_ret (v:=.agg #[.int .i64 1,.int .i64 r,.int .i64 0,.int .i64 0,.int .i64 (x - 2)]) (by simp [results,Tryz.results96,go_sem,g0,g1,g2,g3,g4]) rfl ⟨_,_,_,_,_,rfl,H6.out.cb.set5v H6.out.pR,but_set5v H6.out.but H6.out.old⟩
 ·go_wp2_with fail
  refine (dr_below 3 _ H5.out (by omega) (by omega)).mono ?_
  rintro e w6 ⟨x,rfl,x0,x1,hst⟩
  have H6:Hid (Dr w w6 p s n c w.heap.size):=hst
  clear hst
  obtain ⟨u0,u1,u2,u3,u4,g0,g1,g2,g3,g4⟩:=H6.out.res.at
  have z:=H6.out.res.2.1
  go_wp2
  exact bodyPost_ret (v:=.agg #[.int .i64 (2+x),.int .i64 r,.int .i64 a,.int .i64 b,.int .i64 0]) (by simp [results,Tryz.results96,go_sem,g0,g1,g2,g3,g4]) rfl ⟨_,_,_,_,_,rfl,H6.out.cb.set5v H6.out.pR,but_set5v H6.out.but H6.out.old⟩
 ·go_wp2_with fail
  refine (dr_below 3 _ H5.out (by omega) (by omega)).mono ?_
  rintro e w6 ⟨x,rfl,x0,x1,hst⟩
  have H6:Hid (Dr w w6 p s n c w.heap.size):=hst
  clear hst
  obtain ⟨u0,u1,u2,u3,u4,g0,g1,g2,g3,g4⟩:=H6.out.res.at
  have z:=H6.out.res.2.1
  go_wp2
  exact bodyPost_ret (v:=.agg #[.int .i64 (2+x),.int .i64 r,.int .i64 a,.int .i64 b,.int .i64 0]) (by simp [results,Tryz.results96,go_sem,g0,g1,g2,g3,g4]) rfl ⟨_,_,_,_,_,rfl,H6.out.cb.set5v H6.out.pR,but_set5v H6.out.but H6.out.old⟩
 ·obtain ⟨u0,u1,u2,u3,u4,g0,g1,g2,g3,g4⟩:=H5.out.res.at
  have z:=H5.out.res.2.1
  go_wp2
  exact bodyPost_ret (v:=.agg #[.int .i64 5,.int .i64 0,.int .i64 a,.int .i64 0,.int .i64 m]) (by simp [results,Tryz.results96,go_sem,g0,g1,g2,g3,g4]) rfl ⟨_,_,_,_,_,rfl,H5.out.cb.set5v H5.out.pR,but_set5v H5.out.but H5.out.old⟩
 ·obtain ⟨u0,u1,u2,u3,u4,g0,g1,g2,g3,g4⟩:=H5.out.res.at
  have z:=H5.out.res.2.1
  go_wp2
  exact bodyPost_ret (v:=.agg #[.int .i64 5,.int .i64 0,.int .i64 a,.int .i64 0,.int .i64 m]) (by simp [results,Tryz.results96,go_sem,g0,g1,g2,g3,g4]) rfl ⟨_,_,_,_,_,rfl,H5.out.cb.set5v H5.out.pR,but_set5v H5.out.but H5.out.old⟩
 ·obtain ⟨u0,u1,u2,u3,u4,g0,g1,g2,g3,g4⟩:=H5.out.res.at
  have z:=H5.out.res.2.1
  go_wp2
  exact bodyPost_ret (v:=.agg #[.int .i64 5,.int .i64 0,.int .i64 a,.int .i64 0,.int .i64 m]) (by simp [results,Tryz.results96,go_sem,g0,g1,g2,g3,g4]) rfl ⟨_,_,_,_,_,rfl,H5.out.cb.set5v H5.out.pR,but_set5v H5.out.but H5.out.old⟩
 ·obtain ⟨u0,u1,u2,u3,u4,g0,g1,g2,g3,g4⟩:=H5.out.res.at
  have z:=H5.out.res.2.1
  go_wp2
  exact bodyPost_ret (v:=.agg #[.int .i64 6,.int .i64 r,.int .i64 0,.int .i64 ((r+1) % 4),.int .i64 m]) (by simp [results,Tryz.results96,go_sem,g0,g1,g2,g3,g4]) rfl ⟨_,_,_,_,_,rfl,H5.out.cb.set5v H5.out.pR,but_set5v H5.out.but H5.out.old⟩
 ·obtain ⟨u0,u1,u2,u3,u4,g0,g1,g2,g3,g4⟩:=H5.out.res.at
  have z:=H5.out.res.2.1
  go_wp2
  exact bodyPost_ret (v:=.agg #[.int .i64 6,.int .i64 r,.int .i64 0,.int .i64 ((r+1) % 4),.int .i64 m]) (by simp [results,Tryz.results96,go_sem,g0,g1,g2,g3,g4]) rfl ⟨_,_,_,_,_,rfl,H5.out.cb.set5v H5.out.pR,but_set5v H5.out.but H5.out.old⟩
 ·obtain ⟨u0,u1,u2,u3,u4,g0,g1,g2,g3,g4⟩:=H5.out.res.at
  have z:=H5.out.res.2.1
  go_wp2
  exact bodyPost_ret (v:=.agg #[.int .i64 6,.int .i64 r,.int .i64 0,.int .i64 ((r+1) % 4),.int .i64 m]) (by simp [results,Tryz.results96,go_sem,g0,g1,g2,g3,g4]) rfl ⟨_,_,_,_,_,rfl,H5.out.cb.set5v H5.out.pR,but_set5v H5.out.but H5.out.old⟩
 ·obtain ⟨u0,u1,u2,u3,u4,g0,g1,g2,g3,g4⟩:=H5.out.res.at
  have z:=H5.out.res.2.1
  go_wp2
  exact bodyPost_ret (v:=.agg #[.int .i64 7,.int .i64 r,.int .i64 a,.int .i64 0,.int .i64 m]) (by simp [results,Tryz.results96,go_sem,g0,g1,g2,g3,g4]) rfl ⟨_,_,_,_,_,rfl,H5.out.cb.set5v H5.out.pR,but_set5v H5.out.but H5.out.old⟩
 ·obtain ⟨u0,u1,u2,u3,u4,g0,g1,g2,g3,g4⟩:=H5.out.res.at
  have z:=H5.out.res.2.1
  go_wp2
  exact bodyPost_ret (v:=.agg #[.int .i64 8,.int .i64 r,.int .i64 0,.int .i64 ((r+1) % 4),.int .i64 m]) (by simp [results,Tryz.results96,go_sem,g0,g1,g2,g3,g4]) rfl ⟨_,_,_,_,_,rfl,H5.out.cb.set5v H5.out.pR,but_set5v H5.out.but H5.out.old⟩
 ·go_wp2_with fail
  refine (dr_once 3 _ H5.out (by omega) (by omega)).mono ?_
  rintro e w6 ⟨x,rfl,hst⟩
  have H6:Hid (Dr w w6 p s n c w.heap.size):=hst
  clear hst
  cases x
  ·go_wp2_with fail
   refine (dr_below pl _ H6.out (by omega) (by omega)).mono ?_
   rintro e w7 ⟨y,rfl,y0,y1,hst⟩
   have H7:Hid (Dr w w7 p s n c w.heap.size):=hst
   clear hst
   obtain ⟨u0,u1,u2,u3,u4,g0,g1,g2,g3,g4⟩:=H7.out.res.at
   have z:=H7.out.res.2.1
   go_wp2
   exact bodyPost_ret (v:=.agg #[.int .i64 11,.int .i64 0,.int .i64 0,.int .i64 0,.int .i64 y]) (by simp [results,Tryz.results96,go_sem,g0,g1,g2,g3,g4]) rfl ⟨_,_,_,_,_,rfl,H7.out.cb.set5v H7.out.pR,but_set5v H7.out.but H7.out.old⟩
  ·obtain ⟨u0,u1,u2,u3,u4,g0,g1,g2,g3,g4⟩:=H6.out.res.at
   have z:=H6.out.res.2.1
   go_wp2
   exact bodyPost_ret (v:=.agg #[.int .i64 9,.int .i64 0,.int .i64 0,.int .i64 0,.int .i64 m]) (by simp [results,Tryz.results96,go_sem,g0,g1,g2,g3,g4]) rfl ⟨_,_,_,_,_,rfl,H6.out.cb.set5v H6.out.pR,but_set5v H6.out.but H6.out.old⟩
 ·go_wp2_with fail
  refine (dr_below pl _ H5.out (by omega) (by omega)).mono ?_
  rintro e w6 ⟨x,rfl,x0,x1,hst⟩
  have H6:Hid (Dr w w6 p s n c w.heap.size):=hst
  clear hst
  obtain ⟨u0,u1,u2,u3,u4,g0,g1,g2,g3,g4⟩:=H6.out.res.at
  have z:=H6.out.res.2.1
  go_wp2
  exact bodyPost_ret (v:=.agg #[.int .i64 12,.int .i64 0,.int .i64 a,.int .i64 0,.int .i64 x]) (by simp [results,Tryz.results96,go_sem,g0,g1,g2,g3,g4]) rfl ⟨_,_,_,_,_,rfl,H6.out.cb.set5v H6.out.pR,but_set5v H6.out.but H6.out.old⟩
 ·obtain ⟨u0,u1,u2,u3,u4,g0,g1,g2,g3,g4⟩:=H5.out.res.at
  have z:=H5.out.res.2.1
  go_wp2
  exact bodyPost_ret (v:=.agg #[.int .i64 10,.int .i64 0,.int .i64 a,.int .i64 0,.int .i64 0]) (by simp [results,Tryz.results96,go_sem,g0,g1,g2,g3,g4]) rfl ⟨_,_,_,_,_,rfl,H5.out.cb.set5v H5.out.pR,but_set5v H5.out.but H5.out.old⟩
 ·obtain ⟨u0,u1,u2,u3,u4,g0,g1,g2,g3,g4⟩:=H5.out.res.at
  have z:=H5.out.res.2.1
  go_wp2
  exact bodyPost_ret (v:=.agg #[.int .i64 10,.int .i64 0,.int .i64 a,.int .i64 0,.int .i64 0]) (by simp [results,Tryz.results96,go_sem,g0,g1,g2,g3,g4]) rfl ⟨_,_,_,_,_,rfl,H5.out.cb.set5v H5.out.pR,but_set5v H5.out.but H5.out.old⟩
end Go.Proofs.YtknffngbdakblaaGreat
