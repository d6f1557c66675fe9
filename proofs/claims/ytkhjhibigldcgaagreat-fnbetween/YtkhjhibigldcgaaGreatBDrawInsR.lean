/- A drawn place is right for its places and channels. Conditions: the cursor and its bytes lie in memory as the reading says; 1 to 3 channels. -/
import Derived.Test.YtkhjhibigldcgaaGreatBG00
import Derived.Test.YtkhjhibigldcgaaGreatBG14
import Derived.Test.YtkhjhibigldcgaaGreatBG13
import Derived.Test.YtkhjhibigldcgaaGreatBDraw2
namespace Go.Proofs.YtkhjhibigldcgaaGreat
set_option linter.unusedSimpArgs false
set_option linter.unusedVariables false
set_option maxRecDepth 100000
open Go.RowKit
theorem rg1 {r n pl ch:Int} (r0:0≤r) (r1:r < 4) (c0:1≤ch) (c1:ch≤3) (n0: -1000000000≤n) (n1:n≤1000000000):Plain.insB 1 r 0 0 n pl ch=true:=by
 unfold Plain.insB
 rw [decide_eq_true_eq]
 exact ⟨r0,by omega,by omega,by omega,by omega,by omega,by omega,c1,.inl ⟨rfl,n0,n1,rfl,rfl⟩⟩
theorem rg2 {x r a b pl ch:Int} (x0:0≤x) (x1:x < 3) (r0:0≤r) (r1:r < 4) (a0:0≤a) (a1:a < 4) (b0:0≤b) (b1:b < 4) (c0:1≤ch) (c1:ch≤3):Plain.insB (2+x) r a b 0 pl ch=true:=by
 unfold Plain.insB
 rw [decide_eq_true_eq]
 exact ⟨r0,by omega,a0,by omega,b0,by omega,by omega,c1,.inr (.inl ⟨by omega,rfl⟩)⟩
theorem rg5 {a n pl ch:Int} (a0:0≤a) (a1:a < 4) (c0:1≤ch) (c1:ch≤3) (n0:0≤n) (n1:n < ch):Plain.insB 5 0 a 0 n pl ch=true:=by
 unfold Plain.insB
 rw [decide_eq_true_eq]
 exact ⟨by omega,by omega,a0,by omega,by omega,by omega,by omega,c1,.inr (.inr (.inl ⟨rfl,n0,n1,rfl,rfl⟩))⟩
theorem rg6 {o r n pl ch:Int} (ho:o=6∨o=8) (r0:0≤r) (r1:r < 4) (c0:1≤ch) (c1:ch≤3) (n0:0≤n) (n1:n < ch):Plain.insB o r 0 ((r+1) % 4) n pl ch=true:=by
 unfold Plain.insB
 rw [decide_eq_true_eq]
 exact ⟨r0,by omega,by omega,by omega,by omega,by omega,by omega,c1,.inr (.inr (.inr (.inl ⟨ho,n0,n1,rfl,by omega⟩)))⟩
theorem rg7 {r a n pl ch:Int} (r0:0≤r) (r1:r < 4) (a0:0≤a) (a1:a < 4) (c0:1≤ch) (c1:ch≤3) (n0:0≤n) (n1:n < ch):Plain.insB 7 r a 0 n pl ch=true:=by
 unfold Plain.insB
 rw [decide_eq_true_eq]
 exact ⟨r0,by omega,a0,by omega,by omega,by omega,by omega,c1,.inr (.inr (.inr (.inr (.inl ⟨rfl,n0,n1,rfl⟩))))⟩
theorem rg9 {n pl ch:Int} (c0:1≤ch) (c1:ch≤3) (n0:0≤n) (n1:n < ch):Plain.insB 9 0 0 0 n pl ch=true:=by
 unfold Plain.insB
 rw [decide_eq_true_eq]
 exact ⟨by omega,by omega,by omega,by omega,by omega,by omega,by omega,c1,.inr (.inr (.inr (.inr (.inr (.inl ⟨rfl,n0,n1,rfl,rfl,rfl⟩)))))⟩
theorem rg10 {a pl ch:Int} (a0:0≤a) (a1:a < 4) (c0:1≤ch) (c1:ch≤3):Plain.insB 10 0 a 0 0 pl ch=true:=by
 unfold Plain.insB
 rw [decide_eq_true_eq]
 exact ⟨by omega,by omega,a0,by omega,by omega,by omega,by omega,c1,.inr (.inr (.inr (.inr (.inr (.inr (.inl ⟨rfl,rfl,rfl,rfl⟩))))))⟩
theorem rg11 {n pl ch:Int} (c0:1≤ch) (c1:ch≤3) (n0:0≤n) (n1:n < pl):Plain.insB 11 0 0 0 n pl ch=true:=by
 unfold Plain.insB
 rw [decide_eq_true_eq]
 refine ⟨by omega,by omega,by omega,by omega,by omega,by omega,by omega,c1,.inr (.inr (.inr (.inr (.inr (.inr (.inr ?_))))))⟩
 omega
theorem rg12 {a n pl ch:Int} (a0:0≤a) (a1:a < 4) (c0:1≤ch) (c1:ch≤3) (n0:0≤n) (n1:n < pl):Plain.insB 12 0 a 0 n pl ch=true:=by
 unfold Plain.insB
 rw [decide_eq_true_eq]
 refine ⟨by omega,by omega,a0,by omega,by omega,by omega,by omega,c1,.inr (.inr (.inr (.inr (.inr (.inr (.inr ?_))))))⟩
 omega
set_option maxRecDepth 100000 in
set_option maxHeartbeats 4000000 in
theorem drawIns_ok (p : Nat) (s : Option Addr) (n c : Nat) (pl ch : Int) (w : World) (h : CBx158 w p s n c) (hp0 : 0 < pl) (hp : pl ≤ 256) (hc0 : 1 ≤ ch) (hc : ch ≤ 3) :
  Calls Tryz.prog 39 #[.pointer (some ⟨p,0,none⟩),.int .i64 pl,.int .i64 ch] w fun e w'=>∃ o r a b m:Int,e=.returned (.agg #[.int .i64 o,.int .i64 r,.int .i64 a,.int .i64 b,.int .i64 m])∧Plain.insB o r a b m pl ch=true∧CBx158 w' p s n c∧But p w w':=by
 have H0:Hid (Dr w (w.alloc (.cells #[.int .i64 0,.int .i64 0,.int .i64 0,.int .i64 0,.int .i64 0] 71)) p s n c w.heap.size):=⟨h.alloc _,res_new _ _ _ _ _ _ _,(But.refl _ _).alloc _,h.lt,Nat.le_refl _⟩
 clear h
 go_enter Tryz.func39,Tryz.ntmps39
 go_wp2_with fail
 refine (dr_below 4 _ H0.out (by omega) (by omega)).mono ?_
 rintro e w1 ⟨r,rfl,r0,r1,hst⟩
 have H1:Hid (Dr w w1 p s n c w.heap.size):=hst
 clear hst
 go_wp2_with fail
 refine (dr_below 4 _ H1.out (by omega) (by omega)).mono ?_
 rintro e w2 ⟨a,rfl,a0,a1,hst⟩
 have H2:Hid (Dr w w2 p s n c w.heap.size):=hst
 clear hst
 go_wp2_with fail
 refine (dr_below 4 _ H2.out (by omega) (by omega)).mono ?_
 rintro e w3 ⟨b,rfl,b0,b1,hst⟩
 have H3:Hid (Dr w w3 p s n c w.heap.size):=hst
 clear hst
 go_wp2_with fail
 refine (max_any ch 1 _).mono ?_
 rintro e w3' ⟨rfl,hw⟩
 have hw':=hw.symm
 clear hw
 subst hw'
 have hm0:0 < (if (1:Int) < ch then ch else 1):=by split<;>omega
 have hm1:(if (1:Int) < ch then ch else 1)≤256:=by split<;>omega
 have hqe:(if (1:Int) < ch then ch else 1)=ch:=by split<;>omega
 rw [hqe] at hm0 hm1 ⊢
 clear hqe
 go_wp2_with fail
 refine (dr_below ch _ H3.out (by omega) (by omega)).mono ?_
 rintro e w4 ⟨m,rfl,m0,m1,hst⟩
 have H4:Hid (Dr w w4 p s n c w.heap.size):=hst
 clear hst
 go_wp2_with fail
 refine (dr_below 16 _ H4.out (by omega) (by omega)).mono ?_
 rintro e w5 ⟨t,rfl,t0,t1,hst⟩
 have H5:Hid (Dr w w5 p s n c w.heap.size):=hst
 clear hst
 clear H0 H1 H2 H3 H4
 have ht:t=0∨t=1∨t=2∨t=3∨t=4∨t=5∨t=6∨t=7∨t=8∨t=9∨t=10∨t=11∨t=12∨t=13∨t=14∨t=15:=by omega
 clear t0 t1
 rcases ht with rfl | rfl | rfl | rfl | rfl | rfl | rfl | rfl | rfl | rfl | rfl | rfl | rfl | rfl | rfl | rfl
 ·go_wp2_with fail
  refine (dr_below 9 _ H5.out (by omega) (by omega)).mono ?_
  rintro e w6 ⟨x,rfl,x0,x1,hst⟩
  have H6:Hid (Dr w w6 p s n c w.heap.size):=hst
  clear hst
  obtain ⟨u0,u1,u2,u3,u4,g0,g1,g2,g3,g4⟩:=H6.out.res.at
  have z:=H6.out.res.2.1
  go_wp2
  exact bodyPost_ret (v:=.agg #[.int .i64 1,.int .i64 r,.int .i64 0,.int .i64 0,.int .i64 (x - 2)]) (by simp [results,Tryz.results39,go_sem,g0,g1,g2,g3,g4]) rfl ⟨_,_,_,_,_,rfl,rg1 r0 r1 hc0 hc (by omega) (by omega),H6.out.cb.set5v H6.out.pR,but_set5v H6.out.but H6.out.old⟩
 ·go_wp2_with fail
  refine (dr_below 9 _ H5.out (by omega) (by omega)).mono ?_
  rintro e w6 ⟨x,rfl,x0,x1,hst⟩
  have H6:Hid (Dr w w6 p s n c w.heap.size):=hst
  clear hst
  obtain ⟨u0,u1,u2,u3,u4,g0,g1,g2,g3,g4⟩:=H6.out.res.at
  have z:=H6.out.res.2.1
  go_wp2
  exact bodyPost_ret (v:=.agg #[.int .i64 1,.int .i64 r,.int .i64 0,.int .i64 0,.int .i64 (x - 2)]) (by simp [results,Tryz.results39,go_sem,g0,g1,g2,g3,g4]) rfl ⟨_,_,_,_,_,rfl,rg1 r0 r1 hc0 hc (by omega) (by omega),H6.out.cb.set5v H6.out.pR,but_set5v H6.out.but H6.out.old⟩
 ·go_wp2_with fail
  refine (dr_below 3 _ H5.out (by omega) (by omega)).mono ?_
  rintro e w6 ⟨x,rfl,x0,x1,hst⟩
  have H6:Hid (Dr w w6 p s n c w.heap.size):=hst
  clear hst
  obtain ⟨u0,u1,u2,u3,u4,g0,g1,g2,g3,g4⟩:=H6.out.res.at
  have z:=H6.out.res.2.1
  go_wp2
  exact bodyPost_ret (v:=.agg #[.int .i64 (2+x),.int .i64 r,.int .i64 a,.int .i64 b,.int .i64 0]) (by simp [results,Tryz.results39,go_sem,g0,g1,g2,g3,g4]) rfl ⟨_,_,_,_,_,rfl,rg2 x0 x1 r0 r1 a0 a1 b0 b1 hc0 hc,H6.out.cb.set5v H6.out.pR,but_set5v H6.out.but H6.out.old⟩
 ·go_wp2_with fail
  refine (dr_below 3 _ H5.out (by omega) (by omega)).mono ?_
  rintro e w6 ⟨x,rfl,x0,x1,hst⟩
  have H6:Hid (Dr w w6 p s n c w.heap.size):=hst
  clear hst
  obtain ⟨u0,u1,u2,u3,u4,g0,g1,g2,g3,g4⟩:=H6.out.res.at
  have z:=H6.out.res.2.1
  go_wp2
  exact bodyPost_ret (v:=.agg #[.int .i64 (2+x),.int .i64 r,.int .i64 a,.int .i64 b,.int .i64 0]) (by simp [results,Tryz.results39,go_sem,g0,g1,g2,g3,g4]) rfl ⟨_,_,_,_,_,rfl,rg2 x0 x1 r0 r1 a0 a1 b0 b1 hc0 hc,H6.out.cb.set5v H6.out.pR,but_set5v H6.out.but H6.out.old⟩
 ·obtain ⟨u0,u1,u2,u3,u4,g0,g1,g2,g3,g4⟩:=H5.out.res.at
  have z:=H5.out.res.2.1
  go_wp2
  exact bodyPost_ret (v:=.agg #[.int .i64 5,.int .i64 0,.int .i64 a,.int .i64 0,.int .i64 m]) (by simp [results,Tryz.results39,go_sem,g0,g1,g2,g3,g4]) rfl ⟨_,_,_,_,_,rfl,rg5 a0 a1 hc0 hc m0 m1,H5.out.cb.set5v H5.out.pR,but_set5v H5.out.but H5.out.old⟩
 ·obtain ⟨u0,u1,u2,u3,u4,g0,g1,g2,g3,g4⟩:=H5.out.res.at
  have z:=H5.out.res.2.1
  go_wp2
  exact bodyPost_ret (v:=.agg #[.int .i64 5,.int .i64 0,.int .i64 a,.int .i64 0,.int .i64 m]) (by simp [results,Tryz.results39,go_sem,g0,g1,g2,g3,g4]) rfl ⟨_,_,_,_,_,rfl,rg5 a0 a1 hc0 hc m0 m1,H5.out.cb.set5v H5.out.pR,but_set5v H5.out.but H5.out.old⟩
 ·obtain ⟨u0,u1,u2,u3,u4,g0,g1,g2,g3,g4⟩:=H5.out.res.at
  have z:=H5.out.res.2.1
  go_wp2
  exact bodyPost_ret (v:=.agg #[.int .i64 5,.int .i64 0,.int .i64 a,.int .i64 0,.int .i64 m]) (by simp [results,Tryz.results39,go_sem,g0,g1,g2,g3,g4]) rfl ⟨_,_,_,_,_,rfl,rg5 a0 a1 hc0 hc m0 m1,H5.out.cb.set5v H5.out.pR,but_set5v H5.out.but H5.out.old⟩
 ·obtain ⟨u0,u1,u2,u3,u4,g0,g1,g2,g3,g4⟩:=H5.out.res.at
  have z:=H5.out.res.2.1
  go_wp2
  exact bodyPost_ret (v:=.agg #[.int .i64 6,.int .i64 r,.int .i64 0,.int .i64 ((r+1) % 4),.int .i64 m]) (by simp [results,Tryz.results39,go_sem,g0,g1,g2,g3,g4]) rfl ⟨_,_,_,_,_,rfl,rg6 (.inl rfl) r0 r1 hc0 hc m0 m1,H5.out.cb.set5v H5.out.pR,but_set5v H5.out.but H5.out.old⟩
 ·obtain ⟨u0,u1,u2,u3,u4,g0,g1,g2,g3,g4⟩:=H5.out.res.at
  have z:=H5.out.res.2.1
  go_wp2
  exact bodyPost_ret (v:=.agg #[.int .i64 6,.int .i64 r,.int .i64 0,.int .i64 ((r+1) % 4),.int .i64 m]) (by simp [results,Tryz.results39,go_sem,g0,g1,g2,g3,g4]) rfl ⟨_,_,_,_,_,rfl,rg6 (.inl rfl) r0 r1 hc0 hc m0 m1,H5.out.cb.set5v H5.out.pR,but_set5v H5.out.but H5.out.old⟩
 ·obtain ⟨u0,u1,u2,u3,u4,g0,g1,g2,g3,g4⟩:=H5.out.res.at
  have z:=H5.out.res.2.1
  go_wp2
  exact bodyPost_ret (v:=.agg #[.int .i64 6,.int .i64 r,.int .i64 0,.int .i64 ((r+1) % 4),.int .i64 m]) (by simp [results,Tryz.results39,go_sem,g0,g1,g2,g3,g4]) rfl ⟨_,_,_,_,_,rfl,rg6 (.inl rfl) r0 r1 hc0 hc m0 m1,H5.out.cb.set5v H5.out.pR,but_set5v H5.out.but H5.out.old⟩
 ·obtain ⟨u0,u1,u2,u3,u4,g0,g1,g2,g3,g4⟩:=H5.out.res.at
  have z:=H5.out.res.2.1
  go_wp2
  exact bodyPost_ret (v:=.agg #[.int .i64 7,.int .i64 r,.int .i64 a,.int .i64 0,.int .i64 m]) (by simp [results,Tryz.results39,go_sem,g0,g1,g2,g3,g4]) rfl ⟨_,_,_,_,_,rfl,rg7 r0 r1 a0 a1 hc0 hc m0 m1,H5.out.cb.set5v H5.out.pR,but_set5v H5.out.but H5.out.old⟩
 ·obtain ⟨u0,u1,u2,u3,u4,g0,g1,g2,g3,g4⟩:=H5.out.res.at
  have z:=H5.out.res.2.1
  go_wp2
  exact bodyPost_ret (v:=.agg #[.int .i64 8,.int .i64 r,.int .i64 0,.int .i64 ((r+1) % 4),.int .i64 m]) (by simp [results,Tryz.results39,go_sem,g0,g1,g2,g3,g4]) rfl ⟨_,_,_,_,_,rfl,rg6 (.inr rfl) r0 r1 hc0 hc m0 m1,H5.out.cb.set5v H5.out.pR,but_set5v H5.out.but H5.out.old⟩
 ·go_wp2_with fail
  refine (dr_once 3 _ H5.out (by omega) (by omega)).mono ?_
  rintro e w6 ⟨x,rfl,hst⟩
  have H6:Hid (Dr w w6 p s n c w.heap.size):=hst
  clear hst
  cases x
  ·go_wp2_with fail
   refine (dr_below pl _ H6.out (by omega) (by omega)).mono ?_
   rintro e w7 ⟨y,rfl,y0,y1,hst⟩
   have H7:Hid (Dr w w7 p s n c w.heap.size):=hst
   clear hst
   obtain ⟨u0,u1,u2,u3,u4,g0,g1,g2,g3,g4⟩:=H7.out.res.at
   have z:=H7.out.res.2.1
   go_wp2
   exact bodyPost_ret (v:=.agg #[.int .i64 11,.int .i64 0,.int .i64 0,.int .i64 0,.int .i64 y]) (by simp [results,Tryz.results39,go_sem,g0,g1,g2,g3,g4]) rfl ⟨_,_,_,_,_,rfl,rg11 hc0 hc y0 y1,H7.out.cb.set5v H7.out.pR,but_set5v H7.out.but H7.out.old⟩
  ·obtain ⟨u0,u1,u2,u3,u4,g0,g1,g2,g3,g4⟩:=H6.out.res.at
   have z:=H6.out.res.2.1
   go_wp2
   exact bodyPost_ret (v:=.agg #[.int .i64 9,.int .i64 0,.int .i64 0,.int .i64 0,.int .i64 m]) (by simp [results,Tryz.results39,go_sem,g0,g1,g2,g3,g4]) rfl ⟨_,_,_,_,_,rfl,rg9 hc0 hc m0 m1,H6.out.cb.set5v H6.out.pR,but_set5v H6.out.but H6.out.old⟩
 ·go_wp2_with fail
  refine (dr_below pl _ H5.out (by omega) (by omega)).mono ?_
  rintro e w6 ⟨x,rfl,x0,x1,hst⟩
  have H6:Hid (Dr w w6 p s n c w.heap.size):=hst
  clear hst
  obtain ⟨u0,u1,u2,u3,u4,g0,g1,g2,g3,g4⟩:=H6.out.res.at
  have z:=H6.out.res.2.1
  go_wp2
  exact bodyPost_ret (v:=.agg #[.int .i64 12,.int .i64 0,.int .i64 a,.int .i64 0,.int .i64 x]) (by simp [results,Tryz.results39,go_sem,g0,g1,g2,g3,g4]) rfl ⟨_,_,_,_,_,rfl,rg12 a0 a1 hc0 hc x0 x1,H6.out.cb.set5v H6.out.pR,but_set5v H6.out.but H6.out.old⟩
 ·obtain ⟨u0,u1,u2,u3,u4,g0,g1,g2,g3,g4⟩:=H5.out.res.at
  have z:=H5.out.res.2.1
  go_wp2
  exact bodyPost_ret (v:=.agg #[.int .i64 10,.int .i64 0,.int .i64 a,.int .i64 0,.int .i64 0]) (by simp [results,Tryz.results39,go_sem,g0,g1,g2,g3,g4]) rfl ⟨_,_,_,_,_,rfl,rg10 a0 a1 hc0 hc,H5.out.cb.set5v H5.out.pR,but_set5v H5.out.but H5.out.old⟩
 ·obtain ⟨u0,u1,u2,u3,u4,g0,g1,g2,g3,g4⟩:=H5.out.res.at
  have z:=H5.out.res.2.1
  go_wp2
  exact bodyPost_ret (v:=.agg #[.int .i64 10,.int .i64 0,.int .i64 a,.int .i64 0,.int .i64 0]) (by simp [results,Tryz.results39,go_sem,g0,g1,g2,g3,g4]) rfl ⟨_,_,_,_,_,rfl,rg10 a0 a1 hc0 hc,H5.out.cb.set5v H5.out.pR,but_set5v H5.out.but H5.out.old⟩
end Go.Proofs.YtkhjhibigldcgaaGreat
