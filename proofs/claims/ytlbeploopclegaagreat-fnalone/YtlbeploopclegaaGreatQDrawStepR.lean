/- A drawn step is right for its places. Conditions: the cursor and its bytes lie in memory as the reading says; 1 to 256 places. -/
import Derived.Test.YtlbeploopclegaaGreatQG00
import Derived.Test.YtlbeploopclegaaGreatQG01
import Derived.Test.YtlbeploopclegaaGreatQG20
import Derived.Test.YtlbeploopclegaaGreatQG04
namespace Go.Proofs.YtlbeploopclegaaGreat
set_option linter.unusedSimpArgs false
set_option linter.unusedVariables false
set_option maxRecDepth 100000
open Go.RowKit
theorem st7 {op r a b n pl : Int} (h : 0 ≤ r ∧ r ≤ 7 ∧ 0 ≤ b ∧ b ≤ 7 ∧ a ≤ 7 ∧ (0 ≤ a ∨ (a = -1 ∧ (op = 5 ∨ op = 6 ∨ op = 7))) ∧
  ((op=1∧ -1000000000≤n∧n≤1000000000∧a=0∧b=0)
   ∨((op=2∨op=3∨op=4)∧n=0)
   ∨(op=5∧0≤n∧n≤23∧b=0)
   ∨((op=6∨op=7)∧0≤n∧n≤23∧r=0)
   ∨(op=8∧0≤n∧n≤23∧a=0)
   ∨(op=9∧r=0∧b=0∧n=0)
   ∨(op=10∧0≤n∧n < pl∧r=0∧a=0∧b=0)
   ∨(op=11∧0≤n∧n < pl∧r=0∧b=0)
   ∨((op=12∨op=13)∧r=0∧a=0∧b=0∧n=0))):Plain.stepB op r a b n pl=true:=by
 unfold Plain.stepB
 rw [decide_eq_true_eq]
 exact h
theorem d7_pickM {w0 : World} {p n c R X : Nat} {s : Option Addr} {o r a b m : Int} (g k : Nat) (l : List Int) (w : World) (h : D7 w0 w p s n c R X o r a b m) (hm : k = l.length) (hl0 : 0 < l.length) (hl : l.length ≤ 256) (hg : g < w.heap.size) (hX : X < g) (hcell : ∀ i, i < l.length → w.cell? ⟨g, 0 + i, none⟩ = some (.int .i64 (l.getD i 0))) :
  Calls Tryz.prog 81 #[.pointer (some ⟨p,0,none⟩),.slice (some ⟨g,0,none⟩) k k] w fun e w'=>∃ x:Int,e=.returned (.int .i64 x)∧x∈l∧D7 w0 w' p s n c R X o r a b m:=by
 have h1:=h.pR
 have h2:=h.RX
 refine (pick_cb p s n c g k l w h.cb hm hl0 hl hg (by omega) hcell).mono ?_
 rintro e w' ⟨x,rfl,x0,hc,hb⟩
 exact ⟨x,rfl,x0,h.step hc hb⟩
set_option maxRecDepth 100000 in
set_option maxHeartbeats 8000000 in
theorem drawStep_ok (p : Nat) (s : Option Addr) (n c : Nat) (pl : Int) (w : World) (h : CB w p s n c) (hp0 : 0 < pl) (hp : pl ≤ 256) :
  Calls Tryz.prog 128 #[.pointer (some ⟨p,0,none⟩),.int .i64 pl] w fun e w'=>∃ o r a b m:Int,e=.returned (.agg #[.int .i64 o,.int .i64 r,.int .i64 a,.int .i64 b,.int .i64 m])∧Plain.stepB o r a b m pl=true∧CB w' p s n c∧But p w w':=by
 have HP:Hid (0 < pl∧pl≤256):=⟨hp0,hp⟩
 have H0:Hid (CB (w.alloc (.cells #[.int .i64 0,.int .i64 0,.int .i64 0,.int .i64 0,.int .i64 0] 141)) p s n c):=h.alloc _
 have hpw:=h.lt
 have R0:Hid (Res (w.alloc (.cells #[.int .i64 0,.int .i64 0,.int .i64 0,.int .i64 0,.int .i64 0] 141)) w.heap.size):=res_new _ _ _ _ _ _ _
 clear h hp0 hp
 go_enter Tryz.func128,Tryz.ntmps128
 go_wp2_with fail
 refine (below_cb p s n c 13 _ H0.out (by omega) (by omega)).mono ?_
 rintro e w1 ⟨t,rfl,t0,t1,hc,hb⟩
 have H1:Hid (CB w1 p s n c):=hc
 have B1:Hid (But p w w1):=((But.refl _ _).alloc _).trans hb
 have R1:Hid (Res w1 w.heap.size):=R0.out.but hb (by omega)
 have hz:w.heap.size < w1.heap.size:=R1.out.2.2
 clear hc hb H0 R0
 go_wp2_with fail
 have D1:Hid (D7 w (w1.alloc (.cells #[.int .i64 (1+t),.int .i64 0,.int .i64 0,.int .i64 0,.int .i64 0] 141)) p s n c w.heap.size w1.heap.size (1+t) 0 0 0 0):=
  ⟨H1.out.alloc _,R1.out.but ((But.refl p _).alloc _) (by omega),Bo.new,B1.out.alloc _,by omega,by omega,Nat.le_refl _⟩
 clear H1 R1 B1
 refine (d7_below 8 _ D1.out (by omega) (by omega)).mono ?_
 rintro e w2 ⟨r,rfl,r0,r1,hd⟩
 have D2:Hid (D7 w w2 p s n c w.heap.size w1.heap.size (1+t) 0 0 0 0):=hd
 clear hd D1
 go_wp2_with fail
 refine (d7_below 8 _ D2.out (by omega) (by omega)).mono ?_
 rintro e w3 ⟨a,rfl,a0,a1,hd⟩
 have D3:Hid (D7 w w3 p s n c w.heap.size w1.heap.size (1+t) 0 0 0 0):=hd
 clear hd D2
 go_wp2_with fail
 refine (d7_below 8 _ D3.out (by omega) (by omega)).mono ?_
 rintro e w4 ⟨b,rfl,b0,b1,hd⟩
 have D4:Hid (D7 w w4 p s n c w.heap.size w1.heap.size (1+t) 0 0 0 0):=hd
 clear hd D3
 go_wp2_with fail
 have hx4:w1.heap.size < w4.heap.size:=D4.out.bo.lt
 refine (d7_pickM w4.heap.size 5 [0,1,2,5,23] _ (D4.out.alloc _) rfl (by simp) (by simp) (by simp) hx4 (fun i hi=>by match i,hi with | 0,_=>simp [go_sem] | 1,_=>simp [go_sem] | 2,_=>simp [go_sem] | 3,_=>simp [go_sem] | 4,_=>simp [go_sem])).mono ?_
 rintro e w5 ⟨m,rfl,hm,hd⟩
 have M5:Hid (0≤m∧m≤23):=by simp at hm;show _∧_;omega
 clear hm
 have D5:Hid (D7 w w5 p s n c w.heap.size w1.heap.size (1+t) 0 0 0 0):=hd
 clear hd D4
 have hx5:w1.heap.size < w5.heap.size:=D5.out.bo.lt
 have ht:t=0∨t=1∨t=2∨t=3∨t=4∨t=5∨t=6∨t=7∨t=8∨t=9∨t=10∨t=11∨t=12:=by omega
 clear t0 t1
 rcases ht with rfl | rfl | rfl | rfl | rfl | rfl | rfl | rfl | rfl | rfl | rfl | rfl | rfl
 ·obtain ⟨c0,c1,c2,c3,c4,fz,lx⟩:=D5.out.bo
  have c0:w5.cell? ⟨w1.heap.size,0,none⟩=some (.int .i64 1):=c0
  have f0:=fz 0
  have f1:=fz 1
  have f2:=fz 2
  have f3:=fz 3
  have f4:=fz 4
  clear fz
  go_wp2_with fail
  refine (d7_below 20 _ ((D5.out).set1 (v:=r)) (by omega) (by omega)).mono ?_
  rintro e w6 ⟨y,rfl,y0,y1,hd⟩
  have D6:Hid (D7 w w6 p s n c w.heap.size w1.heap.size 1 r 0 0 0):=hd
  clear hd c0 c1 c2 c3 c4 f0 f1 f2 f3 f4
  obtain ⟨c0,c1,c2,c3,c4,fz,lx⟩:=D6.out.bo
  have c0:w6.cell? ⟨w1.heap.size,0,none⟩=some (.int .i64 1):=c0
  have f0:=fz 0
  have f1:=fz 1
  have f2:=fz 2
  have f3:=fz 3
  have f4:=fz 4
  clear fz
  obtain ⟨u0,u1,u2,u3,u4,g0,g1,g2,g3,g4⟩:=D6.out.res.at
  have z:=D6.out.res.2.1
  have hRX:w.heap.size < w1.heap.size:=hz
  go_wp2
  exact bodyPost_ret (v:=.agg #[.int .i64 1,.int .i64 r,.int .i64 0,.int .i64 0,.int .i64 (y - 5)]) (by simp [results,Tryz.results128,go_sem,g0,g1,g2,g3,g4]) rfl ⟨_,_,_,_,_,rfl,(st7 (by have:=M5.out;have:=HP.out;(try have:=Y6.out);omega)),((D6.out).set4).fin⟩
 ·obtain ⟨c0,c1,c2,c3,c4,fz,lx⟩:=D5.out.bo
  have c0:w5.cell? ⟨w1.heap.size,0,none⟩=some (.int .i64 2):=c0
  have f0:=fz 0
  have f1:=fz 1
  have f2:=fz 2
  have f3:=fz 3
  have f4:=fz 4
  clear fz
  obtain ⟨u0,u1,u2,u3,u4,g0,g1,g2,g3,g4⟩:=D5.out.res.at
  have z:=D5.out.res.2.1
  have hRX:w.heap.size < w1.heap.size:=hz
  go_wp2
  exact bodyPost_ret (v:=.agg #[.int .i64 2,.int .i64 r,.int .i64 a,.int .i64 b,.int .i64 0]) (by simp [results,Tryz.results128,go_sem,g0,g1,g2,g3,g4]) rfl ⟨_,_,_,_,_,rfl,(st7 (by have:=M5.out;have:=HP.out;(try have:=Y6.out);omega)),((((D5.out).set1).set2).set3).fin⟩
 ·obtain ⟨c0,c1,c2,c3,c4,fz,lx⟩:=D5.out.bo
  have c0:w5.cell? ⟨w1.heap.size,0,none⟩=some (.int .i64 3):=c0
  have f0:=fz 0
  have f1:=fz 1
  have f2:=fz 2
  have f3:=fz 3
  have f4:=fz 4
  clear fz
  obtain ⟨u0,u1,u2,u3,u4,g0,g1,g2,g3,g4⟩:=D5.out.res.at
  have z:=D5.out.res.2.1
  have hRX:w.heap.size < w1.heap.size:=hz
  go_wp2
  exact bodyPost_ret (v:=.agg #[.int .i64 3,.int .i64 r,.int .i64 a,.int .i64 b,.int .i64 0]) (by simp [results,Tryz.results128,go_sem,g0,g1,g2,g3,g4]) rfl ⟨_,_,_,_,_,rfl,(st7 (by have:=M5.out;have:=HP.out;(try have:=Y6.out);omega)),((((D5.out).set1).set2).set3).fin⟩
 ·obtain ⟨c0,c1,c2,c3,c4,fz,lx⟩:=D5.out.bo
  have c0:w5.cell? ⟨w1.heap.size,0,none⟩=some (.int .i64 4):=c0
  have f0:=fz 0
  have f1:=fz 1
  have f2:=fz 2
  have f3:=fz 3
  have f4:=fz 4
  clear fz
  obtain ⟨u0,u1,u2,u3,u4,g0,g1,g2,g3,g4⟩:=D5.out.res.at
  have z:=D5.out.res.2.1
  have hRX:w.heap.size < w1.heap.size:=hz
  go_wp2
  exact bodyPost_ret (v:=.agg #[.int .i64 4,.int .i64 r,.int .i64 a,.int .i64 b,.int .i64 0]) (by simp [results,Tryz.results128,go_sem,g0,g1,g2,g3,g4]) rfl ⟨_,_,_,_,_,rfl,(st7 (by have:=M5.out;have:=HP.out;(try have:=Y6.out);omega)),((((D5.out).set1).set2).set3).fin⟩
 ·obtain ⟨c0,c1,c2,c3,c4,fz,lx⟩:=D5.out.bo
  have c0:w5.cell? ⟨w1.heap.size,0,none⟩=some (.int .i64 5):=c0
  have f0:=fz 0
  have f1:=fz 1
  have f2:=fz 2
  have f3:=fz 3
  have f4:=fz 4
  clear fz
  go_wp2_with fail
  refine (d7_pickM w5.heap.size 3 [-1,-1,a] _ (((D5.out).set1 (v:=r)).alloc _) rfl (by simp) (by simp) (by simp) (by omega) (fun i hi=>by match i,hi with | 0,_=>simp [go_sem] | 1,_=>simp [go_sem] | 2,_=>simp [go_sem])).mono ?_
  rintro e w6 ⟨y,rfl,hm,hd⟩
  have Y6:Hid (y=-1∨y=a):=by simp at hm;show _∨_;omega
  clear hm
  have D6:Hid (D7 w w6 p s n c w.heap.size w1.heap.size 5 r 0 0 0):=hd
  clear hd c0 c1 c2 c3 c4 f0 f1 f2 f3 f4
  obtain ⟨c0,c1,c2,c3,c4,fz,lx⟩:=D6.out.bo
  have c0:w6.cell? ⟨w1.heap.size,0,none⟩=some (.int .i64 5):=c0
  have f0:=fz 0
  have f1:=fz 1
  have f2:=fz 2
  have f3:=fz 3
  have f4:=fz 4
  clear fz
  obtain ⟨u0,u1,u2,u3,u4,g0,g1,g2,g3,g4⟩:=D6.out.res.at
  have z:=D6.out.res.2.1
  have hRX:w.heap.size < w1.heap.size:=hz
  go_wp2
  exact bodyPost_ret (v:=.agg #[.int .i64 5,.int .i64 r,.int .i64 y,.int .i64 0,.int .i64 m]) (by simp [results,Tryz.results128,go_sem,g0,g1,g2,g3,g4]) rfl ⟨_,_,_,_,_,rfl,(st7 (by have:=M5.out;have:=HP.out;(try have:=Y6.out);omega)),(((D6.out).set2).set4).fin⟩
 ·obtain ⟨c0,c1,c2,c3,c4,fz,lx⟩:=D5.out.bo
  have c0:w5.cell? ⟨w1.heap.size,0,none⟩=some (.int .i64 6):=c0
  have f0:=fz 0
  have f1:=fz 1
  have f2:=fz 2
  have f3:=fz 3
  have f4:=fz 4
  clear fz
  go_wp2_with fail
  refine (d7_pickM w5.heap.size 3 [-1,-1,a] _ (((D5.out).set3 (v:=b)).alloc _) rfl (by simp) (by simp) (by simp) (by omega) (fun i hi=>by match i,hi with | 0,_=>simp [go_sem] | 1,_=>simp [go_sem] | 2,_=>simp [go_sem])).mono ?_
  rintro e w6 ⟨y,rfl,hm,hd⟩
  have Y6:Hid (y=-1∨y=a):=by simp at hm;show _∨_;omega
  clear hm
  have D6:Hid (D7 w w6 p s n c w.heap.size w1.heap.size 6 0 0 b 0):=hd
  clear hd c0 c1 c2 c3 c4 f0 f1 f2 f3 f4
  obtain ⟨c0,c1,c2,c3,c4,fz,lx⟩:=D6.out.bo
  have c0:w6.cell? ⟨w1.heap.size,0,none⟩=some (.int .i64 6):=c0
  have f0:=fz 0
  have f1:=fz 1
  have f2:=fz 2
  have f3:=fz 3
  have f4:=fz 4
  clear fz
  obtain ⟨u0,u1,u2,u3,u4,g0,g1,g2,g3,g4⟩:=D6.out.res.at
  have z:=D6.out.res.2.1
  have hRX:w.heap.size < w1.heap.size:=hz
  go_wp2
  exact bodyPost_ret (v:=.agg #[.int .i64 6,.int .i64 0,.int .i64 y,.int .i64 b,.int .i64 m]) (by simp [results,Tryz.results128,go_sem,g0,g1,g2,g3,g4]) rfl ⟨_,_,_,_,_,rfl,(st7 (by have:=M5.out;have:=HP.out;(try have:=Y6.out);omega)),(((D6.out).set2).set4).fin⟩
 ·obtain ⟨c0,c1,c2,c3,c4,fz,lx⟩:=D5.out.bo
  have c0:w5.cell? ⟨w1.heap.size,0,none⟩=some (.int .i64 7):=c0
  have f0:=fz 0
  have f1:=fz 1
  have f2:=fz 2
  have f3:=fz 3
  have f4:=fz 4
  clear fz
  go_wp2_with fail
  refine (d7_pickM w5.heap.size 3 [-1,-1,a] _ (((D5.out).set3 (v:=b)).alloc _) rfl (by simp) (by simp) (by simp) (by omega) (fun i hi=>by match i,hi with | 0,_=>simp [go_sem] | 1,_=>simp [go_sem] | 2,_=>simp [go_sem])).mono ?_
  rintro e w6 ⟨y,rfl,hm,hd⟩
  have Y6:Hid (y=-1∨y=a):=by simp at hm;show _∨_;omega
  clear hm
  have D6:Hid (D7 w w6 p s n c w.heap.size w1.heap.size 7 0 0 b 0):=hd
  clear hd c0 c1 c2 c3 c4 f0 f1 f2 f3 f4
  obtain ⟨c0,c1,c2,c3,c4,fz,lx⟩:=D6.out.bo
  have c0:w6.cell? ⟨w1.heap.size,0,none⟩=some (.int .i64 7):=c0
  have f0:=fz 0
  have f1:=fz 1
  have f2:=fz 2
  have f3:=fz 3
  have f4:=fz 4
  clear fz
  obtain ⟨u0,u1,u2,u3,u4,g0,g1,g2,g3,g4⟩:=D6.out.res.at
  have z:=D6.out.res.2.1
  have hRX:w.heap.size < w1.heap.size:=hz
  go_wp2
  exact bodyPost_ret (v:=.agg #[.int .i64 7,.int .i64 0,.int .i64 y,.int .i64 b,.int .i64 m]) (by simp [results,Tryz.results128,go_sem,g0,g1,g2,g3,g4]) rfl ⟨_,_,_,_,_,rfl,(st7 (by have:=M5.out;have:=HP.out;(try have:=Y6.out);omega)),(((D6.out).set2).set4).fin⟩
 ·obtain ⟨c0,c1,c2,c3,c4,fz,lx⟩:=D5.out.bo
  have c0:w5.cell? ⟨w1.heap.size,0,none⟩=some (.int .i64 8):=c0
  have f0:=fz 0
  have f1:=fz 1
  have f2:=fz 2
  have f3:=fz 3
  have f4:=fz 4
  clear fz
  obtain ⟨u0,u1,u2,u3,u4,g0,g1,g2,g3,g4⟩:=D5.out.res.at
  have z:=D5.out.res.2.1
  have hRX:w.heap.size < w1.heap.size:=hz
  go_wp2
  exact bodyPost_ret (v:=.agg #[.int .i64 8,.int .i64 r,.int .i64 0,.int .i64 b,.int .i64 m]) (by simp [results,Tryz.results128,go_sem,g0,g1,g2,g3,g4]) rfl ⟨_,_,_,_,_,rfl,(st7 (by have:=M5.out;have:=HP.out;(try have:=Y6.out);omega)),((((D5.out).set1).set3).set4).fin⟩
 ·obtain ⟨c0,c1,c2,c3,c4,fz,lx⟩:=D5.out.bo
  have c0:w5.cell? ⟨w1.heap.size,0,none⟩=some (.int .i64 9):=c0
  have f0:=fz 0
  have f1:=fz 1
  have f2:=fz 2
  have f3:=fz 3
  have f4:=fz 4
  clear fz
  obtain ⟨u0,u1,u2,u3,u4,g0,g1,g2,g3,g4⟩:=D5.out.res.at
  have z:=D5.out.res.2.1
  have hRX:w.heap.size < w1.heap.size:=hz
  go_wp2
  exact bodyPost_ret (v:=.agg #[.int .i64 9,.int .i64 0,.int .i64 a,.int .i64 0,.int .i64 0]) (by simp [results,Tryz.results128,go_sem,g0,g1,g2,g3,g4]) rfl ⟨_,_,_,_,_,rfl,(st7 (by have:=M5.out;have:=HP.out;(try have:=Y6.out);omega)),((D5.out).set2).fin⟩
 ·obtain ⟨c0,c1,c2,c3,c4,fz,lx⟩:=D5.out.bo
  have c0:w5.cell? ⟨w1.heap.size,0,none⟩=some (.int .i64 10):=c0
  have f0:=fz 0
  have f1:=fz 1
  have f2:=fz 2
  have f3:=fz 3
  have f4:=fz 4
  clear fz
  go_wp2_with fail
  refine (d7_below pl _ (D5.out) HP.out.1 HP.out.2).mono ?_
  rintro e w6 ⟨y,rfl,y0,y1,hd⟩
  have D6:Hid (D7 w w6 p s n c w.heap.size w1.heap.size 10 0 0 0 0):=hd
  clear hd c0 c1 c2 c3 c4 f0 f1 f2 f3 f4
  obtain ⟨c0,c1,c2,c3,c4,fz,lx⟩:=D6.out.bo
  have c0:w6.cell? ⟨w1.heap.size,0,none⟩=some (.int .i64 10):=c0
  have f0:=fz 0
  have f1:=fz 1
  have f2:=fz 2
  have f3:=fz 3
  have f4:=fz 4
  clear fz
  obtain ⟨u0,u1,u2,u3,u4,g0,g1,g2,g3,g4⟩:=D6.out.res.at
  have z:=D6.out.res.2.1
  have hRX:w.heap.size < w1.heap.size:=hz
  go_wp2
  exact bodyPost_ret (v:=.agg #[.int .i64 10,.int .i64 0,.int .i64 0,.int .i64 0,.int .i64 y]) (by simp [results,Tryz.results128,go_sem,g0,g1,g2,g3,g4]) rfl ⟨_,_,_,_,_,rfl,(st7 (by have:=M5.out;have:=HP.out;(try have:=Y6.out);omega)),((D6.out).set4).fin⟩
 ·obtain ⟨c0,c1,c2,c3,c4,fz,lx⟩:=D5.out.bo
  have c0:w5.cell? ⟨w1.heap.size,0,none⟩=some (.int .i64 11):=c0
  have f0:=fz 0
  have f1:=fz 1
  have f2:=fz 2
  have f3:=fz 3
  have f4:=fz 4
  clear fz
  go_wp2_with fail
  refine (d7_below pl _ ((D5.out).set2 (v:=a)) HP.out.1 HP.out.2).mono ?_
  rintro e w6 ⟨y,rfl,y0,y1,hd⟩
  have D6:Hid (D7 w w6 p s n c w.heap.size w1.heap.size 11 0 a 0 0):=hd
  clear hd c0 c1 c2 c3 c4 f0 f1 f2 f3 f4
  obtain ⟨c0,c1,c2,c3,c4,fz,lx⟩:=D6.out.bo
  have c0:w6.cell? ⟨w1.heap.size,0,none⟩=some (.int .i64 11):=c0
  have f0:=fz 0
  have f1:=fz 1
  have f2:=fz 2
  have f3:=fz 3
  have f4:=fz 4
  clear fz
  obtain ⟨u0,u1,u2,u3,u4,g0,g1,g2,g3,g4⟩:=D6.out.res.at
  have z:=D6.out.res.2.1
  have hRX:w.heap.size < w1.heap.size:=hz
  go_wp2
  exact bodyPost_ret (v:=.agg #[.int .i64 11,.int .i64 0,.int .i64 a,.int .i64 0,.int .i64 y]) (by simp [results,Tryz.results128,go_sem,g0,g1,g2,g3,g4]) rfl ⟨_,_,_,_,_,rfl,(st7 (by have:=M5.out;have:=HP.out;(try have:=Y6.out);omega)),((D6.out).set4).fin⟩
 ·obtain ⟨c0,c1,c2,c3,c4,fz,lx⟩:=D5.out.bo
  have c0:w5.cell? ⟨w1.heap.size,0,none⟩=some (.int .i64 12):=c0
  have f0:=fz 0
  have f1:=fz 1
  have f2:=fz 2
  have f3:=fz 3
  have f4:=fz 4
  clear fz
  obtain ⟨u0,u1,u2,u3,u4,g0,g1,g2,g3,g4⟩:=D5.out.res.at
  have z:=D5.out.res.2.1
  have hRX:w.heap.size < w1.heap.size:=hz
  go_wp2
  exact bodyPost_ret (v:=.agg #[.int .i64 12,.int .i64 0,.int .i64 0,.int .i64 0,.int .i64 0]) (by simp [results,Tryz.results128,go_sem,g0,g1,g2,g3,g4]) rfl ⟨_,_,_,_,_,rfl,(st7 (by have:=M5.out;have:=HP.out;(try have:=Y6.out);omega)),D5.out.fin⟩
 ·obtain ⟨c0,c1,c2,c3,c4,fz,lx⟩:=D5.out.bo
  have c0:w5.cell? ⟨w1.heap.size,0,none⟩=some (.int .i64 13):=c0
  have f0:=fz 0
  have f1:=fz 1
  have f2:=fz 2
  have f3:=fz 3
  have f4:=fz 4
  clear fz
  obtain ⟨u0,u1,u2,u3,u4,g0,g1,g2,g3,g4⟩:=D5.out.res.at
  have z:=D5.out.res.2.1
  have hRX:w.heap.size < w1.heap.size:=hz
  go_wp2
  exact bodyPost_ret (v:=.agg #[.int .i64 13,.int .i64 0,.int .i64 0,.int .i64 0,.int .i64 0]) (by simp [results,Tryz.results128,go_sem,g0,g1,g2,g3,g4]) rfl ⟨_,_,_,_,_,rfl,(st7 (by have:=M5.out;have:=HP.out;(try have:=Y6.out);omega)),D5.out.fin⟩
end Go.Proofs.YtlbeploopclegaaGreat
