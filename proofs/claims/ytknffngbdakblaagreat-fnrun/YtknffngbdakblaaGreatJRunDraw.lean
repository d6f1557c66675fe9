/- The draw of FnRun: a program, a source as they are read, and picks. Conditions: the code's bytes lie in memory. -/
import Derived.Test.YtknffngbdakblaaGreatJG00
import Derived.Test.YtknffngbdakblaaGreatJG01
import Derived.Test.YtknffngbdakblaaGreatJG17
import Derived.Test.YtknffngbdakblaaGreatJDrawLT
import Derived.Test.YtknffngbdakblaaGreatJG19
import Derived.Test.YtknffngbdakblaaGreatJDraw2
import Derived.Test.YtknffngbdakblaaGreatJStuckDraw
namespace Go.Proofs.YtknffngbdakblaaGreat
set_option linter.unusedSimpArgs false
set_option linter.unusedVariables false
set_option maxRecDepth 100000
open Go.RowKit Go.Deep
theorem CB.lowB {w w':World} {p n c B:Nat} {s:Option Addr} (h:CB w p s n c) (hb:Below B w w') (hp:p < B) (hB:B≤w.heap.size):CB w' p s n c:=by
 obtain ⟨i,q,e0,e1,e2,ef,q0,q1,q2⟩:=h.1
 exact ⟨⟨i,q,(hb.cell (p:=⟨p,0,none⟩) hp).trans e0,(hb.cell (p:=⟨p,1,none⟩) hp).trans e1,(hb.cell (p:=⟨p,2,none⟩) hp).trans e2,fun j=>(hb.frozen (p:=⟨p,j,none⟩) hp).trans (ef j),q0,q1,Nat.lt_of_lt_of_le q2 hb.size⟩,h.2.1.below hb (Nat.le_of_lt hp),h.2.2⟩
theorem Fin7.lowB {w:World} {P S lo hi hi' B:Nat} {p1 p2:Option Addr} {a1 a2:Nat} {pd:PD} {s1 s2 s3:Option Addr} {c1 c2 c3:Nat} {D:SD} {Z Y:World} (h:Fin7 w P S lo hi hi' p1 p2 a1 a2 pd s1 s2 s3 c1 c2 c3 D Z) (k:Below B Z Y) (hP:P < B) (hS:S < B) (h1:hi≤B) (h2:hi'≤B) (hw:w.heap.size+2≤B):Fin7 w P S lo hi hi' p1 p2 a1 a2 pd s1 s2 s3 c1 c2 c3 D Y:=
 ⟨h.pb.keep (k.block _ hP) k.size,h.sb.keep (k.block _ hS) k.size,h.rp.keep (k.block _ (by omega)) k.size,h.rs.keep (k.block _ (by omega)) k.size,ProgR.keep' h.pg (fun b _ hb=>k.block b (by omega)),h.sr.keep (fun b _ hb=>k.block b (by omega)),Nat.le_trans h.h1 k.size,Nat.le_trans h.h2 k.size,h.lw,h.bl.trans (k.mono (by omega))⟩
theorem OwnN.putI {w:World} {base g n c:Nat} {q:List Int} (h:OwnN w base (.slice (some ⟨g,0,none⟩) n c) q) (hq:q.length=n) (k:Nat) (z:Int):OwnN (w.setCell ⟨g,k,none⟩ (.int .i64 z)) base (.slice (some ⟨g,0,none⟩) n c) (q.set k z):=by
 subst hq
 unfold OwnN at *
 rw [List.length_set,List.map_set]
 exact (World.ownsRow.stored h k _).1
theorem repI (n:Nat):List.replicate n (Value.int .i64 0)=(madeCells #[.int .i64 0] n).toList:=by
 apply List.ext_getElem?
 intro j
 by_cases hj:j < n
 ·have hm:(madeCells #[.int .i64 0] n).toList[j]? =some (.int .i64 0):=by
   simp [madeCells,hj]
   rw [Nat.mod_one];rfl
  rw [hm,List.getElem?_replicate,if_pos hj]
 ·rw [List.getElem?_eq_none (by rw [List.length_replicate];omega),List.getElem?_eq_none (by rw [Array.length_toList,size_madeCells];omega)]
theorem madeI (w:World) (n:Nat) (hn:n≤1048576):OwnN (w.alloc (.cells (madeCells #[.int .i64 0] n) 3)) w.heap.size (.slice (some ⟨w.heap.size,0,none⟩) n n) (List.replicate n 0):=by
 unfold OwnN
 rw [List.length_replicate,List.map_replicate,repI]
 exact World.ownsRow_lit w (madeCells #[.int .i64 0] n) n (Nat.le_refl _) (by unfold maxLen;omega) (by simp [size_madeCells])
set_option maxRecDepth 100000 in
set_option maxHeartbeats 8000000 in
theorem drawRun_any4 (s : Option Addr) (n c : Nat) (w : World) (hb : Bytes w w.heap.size s n) (hn : n ≤ maxLen) :
  Calls Tryz.prog 6 #[.slice s n c] w fun e w'=>∃ (v0 v1 x1 x2 x3:Value) (su:Option Addr) (cu:Nat) (l:List Int),e=.returned (.tuple #[.agg #[v0,v1],.agg #[x1,x2,x3],.slice su l.length cu])∧PgQ w' w.heap.size v0 v1∧SrZ w' w.heap.size x1 x2 x3∧OwnN w' w.heap.size (.slice su l.length cu) l∧l.length≤4001∧Below w.heap.size w w':=by
 have HB:=hidR hb
 have HN:=hidR hn
 clear hb hn
 go_enter Tryz.func6,Tryz.ntmps6
 go_wp2_with fail
 obtain ⟨A,hA⟩:∃ A,(w.alloc (.cells #[.slice none 0 0,.slice none 0 0] 27)).alloc (.cells #[.slice none 0 0,.slice none 0 0,.slice none 0 0] 32)=A:=⟨_,rfl⟩
 have kA:Below w.heap.size w A:=by subst hA;exact ((Below.refl _ _).alloc (Nat.le_refl _) _).alloc (by simp) _
 have sA:A.heap.size=w.heap.size+2:=by subst hA;simp
 have rA:BoF (w.heap.size+1) A (.slice none 0 0) (.slice none 0 0) (.slice none 0 0):=by
  subst hA
  exact ⟨by simp [go_sem],by simp [go_sem],by simp [go_sem],fun j=>by simp [go_sem],by simp⟩
 have qA:BoP w.heap.size A (.slice none 0 0) (.slice none 0 0):=by
  subst hA
  exact ⟨by simp [go_sem],by simp [go_sem],fun j=>by simp [go_sem],by simp;omega⟩
 rw [hA]
 have SA:=hidR sA
 clear hA sA
 refine (new_cb s n c A (HB.out.up kA) HN.out).mono ?_
 rintro e w1 ⟨rfl,hc1,hb1,hs1⟩
 rw [SA.out] at hc1 hs1 hb1 ⊢
 have z1:w1.heap.size=w.heap.size+3:=by omega
 have R1:=hidR (rA.keep (hb1.block _ (Nat.lt_succ_self _)) (by rw [SA.out];omega))
 have Q1:=hidR (qA.keep (hb1.block _ (by omega)) (by rw [SA.out];omega))
 have K1:=hidR (kA.trans (hb1.mono (by omega)))
 have C1:=hidR hc1
 clear hc1 hb1 hs1 rA qA kA HB HN
 go_wp2_with fail
 refine (drawL_any (w.heap.size+2) s n c w1 C1.out).mono ?_
 rintro e w2 ⟨v0,v1,x1,x2,x3,rfl,hp,hs,hc2,hb2⟩
 obtain ⟨hi,p1,p2,a1,a2,pd,e0,e1,hp,hfp,hB⟩:=hp
 subst e0 e1
 obtain ⟨hi',s1,s2,s3,c1,c2,c3,D,e2,e3,e4,hs,hfs,-,hB'⟩:=hs
 subst e2 e3 e4
 have FP:=hidR hfp
 have FS:=hidR hfs
 have z2:=hb2.size
 obtain ⟨V,hV⟩:∃ V,(w2.alloc (.cells #[.slice p1 pd.caps.length a1,.slice p2 pd.bods.length a2] 27)).alloc (.cells #[.slice s1 D.ths.length c1,.slice s2 D.chs.length c2,.slice s3 D.tr.length c3] 32)=V:=⟨_,rfl⟩
 have kV:Below w2.heap.size w2 V:=by subst hV;exact ((Below.refl _ _).alloc (Nat.le_refl _) _).alloc (by simp) _
 have bV:BoF (w2.heap.size+1) V (.slice s1 D.ths.length c1) (.slice s2 D.chs.length c2) (.slice s3 D.tr.length c3):=by
  subst hV
  exact ⟨by simp [go_sem],by simp [go_sem],by simp [go_sem],fun j=>by simp [go_sem],by simp⟩
 have qV:BoP w2.heap.size V (.slice p1 pd.caps.length a1) (.slice p2 pd.bods.length a2):=by
  subst hV
  exact ⟨by simp [go_sem],by simp [go_sem],fun j=>by simp [go_sem],by simp;omega⟩
 have HV:=hidR hV
 have F3:Hid (Fin7 w w2.heap.size (w2.heap.size+1) (w1.heap.size+2) hi hi' p1 p2 a1 a2 pd s1 s2 s3 c1 c2 c3 D V):=
  ⟨qV,bV,(Q1.out.keep (hb2.block _ (by omega) (by omega)) z2).keep (kV.block _ (by omega)) kV.size,(R1.out.keep (hb2.block _ (by omega) (by omega)) z2).keep (kV.block _ (by omega)) kV.size,ProgR.keep' hp (Keep.of_below kV hB),hs.keep (Keep.of_below kV hB'),Nat.le_trans hB kV.size,Nat.le_trans hB' kV.size,by omega,(K1.out.trans (hb2.below (by omega) (by omega))).trans (kV.mono (by omega))⟩
 have C3:=hidR (hc2.keep kV)
 clear kV bV qV hV R1 Q1 K1 hc2 hb2 hs hp hfp hfs
 have hzV:w2.heap.size+2≤V.heap.size:=by have:=F3.out.sb.z;omega
 have HVS:Hid (w2.heap.size+1+1=V.heap.size):=by show _=_;rw [← HV.out];simp
 have E3:=hidR (ownN_empty (w:=V) (base:=V.heap.size) (Nat.le_refl _))
 have F4:=hidR (F3.out.below ((Below.refl V.heap.size V).alloc (Nat.le_refl _) (.cells #[] 3)))
 have C4:=hidR (C3.out.alloc (.cells #[] 3))
 have hh1:=F3.out.h1
 have hh2:=F3.out.h2
 have HH:=hidR (show hi≤V.heap.size∧hi'≤V.heap.size∧w2.heap.size+2≤V.heap.size∧w1.heap.size=w.heap.size+3∧w1.heap.size≤w2.heap.size from ⟨hh1,hh2,hzV,z1,z2⟩)
 clear hh1 hh2 hzV z1 z2 F3 C3
 go_wp2_with fail
 rw [HV.out]
 clear HV
 rw [HVS.out]
 clear HVS
 refine (below_cb (w.heap.size+2) s n c 50 _ C4.out (by omega) (by omega)).mono ?_
 rintro e w4 ⟨nn,rfl,hn0,hn50,hc4,hb4⟩
 have F5:=hidR (F4.out.but hb4 rfl (by have:=HH.out;omega) (by have:=HH.out;omega) (by have:=HH.out;omega))
 have E5:=hidR (E3.out.keep (fun k a b=>hb4.block k b (by have:=HH.out;omega)))
 have C5:=hidR hc4
 have Z5:Hid (V.heap.size≤w4.heap.size):=Nat.le_trans (by simp) hb4.size
 clear hc4 hb4 F4 E3 C4
 have hvl:w.heap.size+2 < V.heap.size:=by have:=HH.out;omega
 go_wp2_with fail
 go_loopw [8,10] (fun u i wr=>∃ (k:Nat) (l:List Int),(k:Int)≤50∧i=.int .i64 k∧l.length=k∧Fin7 w w2.heap.size (w2.heap.size+1) (w1.heap.size+2) hi hi' p1 p2 a1 a2 pd s1 s2 s3 c1 c2 c3 D wr∧CB wr (w.heap.size+2) s n c∧OwnN wr V.heap.size u l∧V.heap.size≤wr.heap.size) (fun _ i _=>50 - (intOf i).toNat)
 case atStart=>exact ⟨0,[],by omega,rfl,rfl,F5.out,C5.out,E5.out,Z5.out⟩
 case round=>
  obtain ⟨k,l,hk,rfl,hl,hF,hC,hO,hZ⟩:=hrel
  clear F5 C5 E5 Z5
  have F6:=hidR hF
  have C6:=hidR hC
  have O6:=hidR hO
  have Z6:=hidR hZ
  have LL:=hidR hl
  clear hF hC hO hZ hl
  by_cases hlt:(k:Int) < nn
  ·go_wp2_with fail
   refine (below_cb (w.heap.size+2) s n c 5 wr C6.out (by omega) (by omega)).mono ?_
   rintro e w7 ⟨z,rfl,-,-,hc7,hb7⟩
   have F7:=hidR (F6.out.but hb7 rfl (by have:=HH.out;omega) (by have:=HH.out;omega) (by have:=HH.out;omega))
   have O7:=hidR (O6.out.keep (fun j a b=>hb7.block j b (by omega)))
   have C7:=hidR hc7
   have Z7:Hid (V.heap.size≤w7.heap.size):=Nat.le_trans Z6.out hb7.size
   clear hc7 hb7 F6 C6 O6 Z6
   have hlk:l.length≤1099511627776:=by have:=LL.out;omega
   go_wp2_with (at_builtin;refine app_int rfl _ _ rfl w7 z V.heap.size u8 l rfl O7.out rfl hlk Z7.out ?_;intro g8 cap8 w8 ho8 hb8 hs8;have O8:=hidR ho8;have B8:=hidR hb8;have S8:=hidR hs8;clear ho8 hb8 hs8)
   go_roundw
   case rel=>exact ⟨k+1,l++[z],by omega,by go_num,by rw [List.length_append,LL.out];rfl,F7.out.lowB B8.out (by have:=HH.out;omega) (by have:=HH.out;omega) HH.out.1 HH.out.2.1 (Nat.le_of_lt hvl),C7.out.lowB B8.out (by omega) Z7.out,O8.out,Nat.le_trans Z7.out S8.out⟩
   case measure=>simp [intOf];omega
  ·obtain ⟨su,cu,rfl⟩:=ownSl O6.out
   obtain ⟨wz,hwz⟩:∃ wz,wz=wr:=⟨_,rfl⟩
   subst hwz
   go_wp2_with fail
   refine (once_cb (w.heap.size+2) s n c 90 wz C6.out (by omega) (by omega)).mono ?_
   rintro e w7 ⟨b,rfl,hc7,hb7⟩
   have F7:=hidR (F6.out.but hb7 rfl (by have:=HH.out;omega) (by have:=HH.out;omega) (by have:=HH.out;omega))
   have O7:=hidR (O6.out.keep (fun j a b=>hb7.block j b (by omega)))
   have C7:=hidR hc7
   have Z7:Hid (V.heap.size≤w7.heap.size):=Nat.le_trans Z6.out hb7.size
   have LK:Hid (l.length≤4001):=by show _≤_;have:=LL.out;omega
   clear hc7 hb7 F6 C6 O6 Z6 LL
   have z1:=HH.out.2.2.2.1
   have z2:=HH.out.2.2.2.2
   cases b
   ·go_wp2_with fail
    obtain ⟨k0,k1,kf,kz⟩:=F7.out.pb
    obtain ⟨m0,m1,m2,mf,mz⟩:=F7.out.sb
    obtain ⟨f0,f1,ff,fz⟩:=F7.out.rp
    obtain ⟨g0,g1,g2,gf,gz⟩:=F7.out.rs
    have n1':¬ w2.heap.size=w.heap.size:=by omega
    have n2':¬ w2.heap.size=w.heap.size+1:=by omega
    have n3':¬ w2.heap.size+1=w.heap.size:=by omega
    have n4':¬ w2.heap.size+1=w.heap.size+1:=by omega
    have n5':¬ w.heap.size=w2.heap.size:=by omega
    have n6':¬ w.heap.size+1=w2.heap.size:=by omega
    have n7':¬ w.heap.size=w2.heap.size+1:=by omega
    have n8':¬ w.heap.size+1=w2.heap.size+1:=by omega
    go_wp2_with fail
    go_region
    all_goals
     have lw:=F7.out.lw
     have bl:=F7.out.bl
     have u1:=F7.out.h1
     have u2:=F7.out.h2
     obtain ⟨WY,hWY⟩:∃ W,(((((w7.setCell ⟨w.heap.size,0,none⟩ (.slice p1 pd.caps.length a1)).setCell ⟨w.heap.size,1,none⟩ (.slice p2 pd.bods.length a2)).setCell ⟨w.heap.size+1,0,none⟩ (Value.slice s1 D.ths.length c1)).setCell ⟨w.heap.size+1,1,none⟩ (Value.slice s2 D.chs.length c2)).setCell ⟨w.heap.size+1,2,none⟩ (Value.slice s3 D.tr.length c3)).drew=W:=⟨_,rfl⟩
     have hk6:∀ k,w.heap.size+2≤k→WY.heap[k]? =w7.heap[k]? :=fun k a=>by rw [← hWY];exact heap5 w7 _ _ _ _ _ _ _ k (by omega) (by omega)
     have hz6:w7.heap.size≤WY.heap.size:=by rw [← hWY];show _≤(World.setCell _ _ _).heap.size;simp
     have P6:Hid (PgQ WY w.heap.size (.slice p1 pd.caps.length a1) (.slice p2 pd.bods.length a2)):=⟨_,p1,p2,a1,a2,pd,rfl,rfl,(fun q:ProgR WY _ _ p1 p2 pd=>⟨q.1.mono (Nat.le_trans (Nat.le_add_right _ 2) lw) (Nat.le_refl _),q.2.mono (Nat.le_trans (Nat.le_add_right _ 2) lw) (Nat.le_refl _)⟩) (ProgR.keep' F7.out.pg (fun k a _=>hk6 k (by omega))),FP.out,by omega⟩
     have S6:Hid (SrZ WY w.heap.size (Value.slice s1 D.ths.length c1) (Value.slice s2 D.chs.length c2) (Value.slice s3 D.tr.length c3)):=⟨_,_,_,_,_,_,_,_,rfl,rfl,rfl,(F7.out.sr.keep (fun k a _=>hk6 k (by omega))).mono (by omega) (Nat.le_refl _),FS.out,by omega⟩
     have K6:=hidR (((((bl.setCell (p:=⟨w.heap.size,0,none⟩) (Nat.le_refl _) (.slice p1 pd.caps.length a1)).setCell (p:=⟨w.heap.size,1,none⟩) (Nat.le_refl _) (.slice p2 pd.bods.length a2)).setCell (p:=⟨w.heap.size+1,0,none⟩) (by show w.heap.size≤w.heap.size+1;omega) (Value.slice s1 D.ths.length c1)).setCell (p:=⟨w.heap.size+1,1,none⟩) (by show w.heap.size≤w.heap.size+1;omega) (Value.slice s2 D.chs.length c2)).setCell (p:=⟨w.heap.size+1,2,none⟩) (by show w.heap.size≤w.heap.size+1;omega) (Value.slice s3 D.tr.length c3)).drew
     rw [hWY] at K6
     have ee0:WY.cell? ⟨w.heap.size,0,none⟩=some (.slice p1 pd.caps.length a1):=by rw [← hWY];simp [go_sem,g0,g1,g2,f0,f1]
     have ee1:WY.cell? ⟨w.heap.size,1,none⟩=some (.slice p2 pd.bods.length a2):=by rw [← hWY];simp [go_sem,g0,g1,g2,f0,f1]
     have ee2:WY.cell? ⟨w.heap.size+1,0,none⟩=some (Value.slice s1 D.ths.length c1):=by rw [← hWY];simp [go_sem,g0,g1,g2,f0,f1]
     have ee3:WY.cell? ⟨w.heap.size+1,1,none⟩=some (Value.slice s2 D.chs.length c2):=by rw [← hWY];simp [go_sem,g0,g1,g2,f0,f1]
     have ee4:WY.cell? ⟨w.heap.size+1,2,none⟩=some (Value.slice s3 D.tr.length c3):=by rw [← hWY];simp [go_sem,g0,g1,g2,f0,f1]
     have N6:=hidR (ownLow' (O7.out.keep (w':=WY) (fun k a b=>hk6 k (by omega))) (by omega:w.heap.size≤V.heap.size))
     rw [hWY]
     clear hWY hk6 hz6 u1 u2 m0 m1 m2 mf k0 k1 kf ff gf F7 bl f0 f1 g0 g1 g2
     go_wp2
     refine bodyPost_ret (v:=.tuple #[.agg #[.slice p1 pd.caps.length a1,.slice p2 pd.bods.length a2],.agg #[Value.slice s1 D.ths.length c1,Value.slice s2 D.chs.length c2,Value.slice s3 D.tr.length c3],Value.slice su l.length cu]) (by simp [results,Tryz.results6,go_sem,ee0,ee1,ee2,ee3,ee4]) rfl ⟨_,_,_,_,_,_,_,l,rfl,P6.out,S6.out,N6.out,LK.out,K6.out⟩
   ·go_wp2_with fail
    refine (below_cb (w.heap.size+2) s n c 2 w7 C7.out (by omega) (by omega)).mono ?_
    rintro e w8 ⟨y,rfl,y0,y1,-,hb8⟩
    have F8:=hidR (F7.out.but hb8 rfl (by have:=HH.out;omega) (by have:=HH.out;omega) (by have:=HH.out;omega))
    have Z8:Hid (V.heap.size≤w8.heap.size):=Nat.le_trans Z7.out hb8.size
    clear hb8 F7 C7 O7 Z7 LK
    obtain ⟨m,hm⟩:∃ m:Nat,4000+y=(m:Int):=⟨(4000+y).toNat,by omega⟩
    have hwr:IntKind.i64.wrap (4000+y)=(m:Int):=by rw [IntWalk.i64_in _ ⟨by omega,by omega⟩,hm]
    have hmk:=mkInt m (by omega)
    have hmm:m≤4001:=by omega
    have N9:=hidR (madeI w8 m (by omega))
    have F9:=hidR (F8.out.below ((Below.refl w8.heap.size w8).alloc (Nat.le_refl _) (.cells (madeCells #[.int .i64 0] m) 3)))
    clear F8
    obtain ⟨X,hX⟩:∃ X,w8.alloc (.cells (madeCells #[.int .i64 0] m) 3)=X:=⟨_,rfl⟩
    rw [hX] at N9 F9
    have HX:=hidR hX
    have O9:=hidR (ownLow' N9.out Z8.out)
    clear hX N9
    go_wp2_with fail
    rw [HX.out]
    clear HX hmk hwr
    go_loopw [11] (fun i wr=>∃ (k:Nat) (q:List Int),k≤m∧i=.int .i64 k∧q.length=m∧Fin7 w w2.heap.size (w2.heap.size+1) (w1.heap.size+2) hi hi' p1 p2 a1 a2 pd s1 s2 s3 c1 c2 c3 D wr∧OwnN wr V.heap.size (.slice (some ⟨w8.heap.size,0,none⟩) m m) q) (fun i _=>m - (intOf i).toNat)
    case atStart=>exact ⟨0,List.replicate m 0,Nat.zero_le _,rfl,List.length_replicate,F9.out,O9.out⟩
    case round=>
     obtain ⟨k,q,hk,rfl,hq,hF,hO⟩:=hrel
     clear F9 O9
     have F10:=hidR hF
     have O10:=hidR hO
     clear hF hO
     by_cases hlt:k < m
     ·have Oq:OwnN wr V.heap.size (.slice (some ⟨w8.heap.size,0,none⟩) q.length m) q:=by rw [hq];exact O10.out
      have d0:=Oq.cell (i:=k) (by omega)
      have d1:wr.frozen? ⟨w8.heap.size,k,none⟩=false:=World.ownsRow.frozenAt Oq k
      have b0:(0:Int)≤(k:Int):=by omega
      have b1:(k:Int) < (m:Int):=by omega
      have HQ:=hidR hq
      clear Oq hq
      go_wp2
      go_roundw
      case rel=>exact ⟨k+1,q.set k 9,by omega,by go_num,by rw [List.length_set];exact HQ.out,F10.out.lowB ((Below.refl V.heap.size wr).setCell (p:=⟨w8.heap.size,k,none⟩) Z8.out _) (by have:=HH.out;omega) (by have:=HH.out;omega) HH.out.1 HH.out.2.1 (Nat.le_of_lt hvl),O10.out.putI HQ.out k 9⟩
      case measure=>simp [intOf];omega
     ·have HM:=hidR hmm
      have b1:¬ (k:Int) < (m:Int):=by omega
      have HQ:=hidR hq
      obtain ⟨wz',hwz'⟩:∃ wz',wz'=wr:=⟨_,rfl⟩
      subst hwz'
      clear hm hmm
      go_wp2_with fail
      clear hk hlt b1 hq
      have e:=HQ.out
      subst e
      obtain ⟨k0,k1,kf,kz⟩:=F10.out.pb
      obtain ⟨m0,m1,m2,mf,mz⟩:=F10.out.sb
      obtain ⟨f0,f1,ff,fz⟩:=F10.out.rp
      obtain ⟨g0,g1,g2,gf,gz⟩:=F10.out.rs
      have n1':¬ w2.heap.size=w.heap.size:=by omega
      have n2':¬ w2.heap.size=w.heap.size+1:=by omega
      have n3':¬ w2.heap.size+1=w.heap.size:=by omega
      have n4':¬ w2.heap.size+1=w.heap.size+1:=by omega
      have n5':¬ w.heap.size=w2.heap.size:=by omega
      have n6':¬ w.heap.size+1=w2.heap.size:=by omega
      have n7':¬ w.heap.size=w2.heap.size+1:=by omega
      have n8':¬ w.heap.size+1=w2.heap.size+1:=by omega
      go_wp2_with fail
      go_region
      all_goals
       have lw:=F10.out.lw
       have bl:=F10.out.bl
       have u1:=F10.out.h1
       have u2:=F10.out.h2
       obtain ⟨WY,hWY⟩:∃ W,(((((wz'.setCell ⟨w.heap.size,0,none⟩ (.slice p1 pd.caps.length a1)).setCell ⟨w.heap.size,1,none⟩ (.slice p2 pd.bods.length a2)).setCell ⟨w.heap.size+1,0,none⟩ (Value.slice s1 D.ths.length c1)).setCell ⟨w.heap.size+1,1,none⟩ (Value.slice s2 D.chs.length c2)).setCell ⟨w.heap.size+1,2,none⟩ (Value.slice s3 D.tr.length c3)).drew=W:=⟨_,rfl⟩
       have hk6:∀ k,w.heap.size+2≤k→WY.heap[k]? =wz'.heap[k]? :=fun k a=>by rw [← hWY];exact heap5 wz' _ _ _ _ _ _ _ k (by omega) (by omega)
       have hz6:wz'.heap.size≤WY.heap.size:=by rw [← hWY];show _≤(World.setCell _ _ _).heap.size;simp
       have P6:Hid (PgQ WY w.heap.size (.slice p1 pd.caps.length a1) (.slice p2 pd.bods.length a2)):=⟨_,p1,p2,a1,a2,pd,rfl,rfl,(fun q:ProgR WY _ _ p1 p2 pd=>⟨q.1.mono (Nat.le_trans (Nat.le_add_right _ 2) lw) (Nat.le_refl _),q.2.mono (Nat.le_trans (Nat.le_add_right _ 2) lw) (Nat.le_refl _)⟩) (ProgR.keep' F10.out.pg (fun k a _=>hk6 k (by omega))),FP.out,by omega⟩
       have S6:Hid (SrZ WY w.heap.size (Value.slice s1 D.ths.length c1) (Value.slice s2 D.chs.length c2) (Value.slice s3 D.tr.length c3)):=⟨_,_,_,_,_,_,_,_,rfl,rfl,rfl,(F10.out.sr.keep (fun k a _=>hk6 k (by omega))).mono (by omega) (Nat.le_refl _),FS.out,by omega⟩
       have K6:=hidR (((((bl.setCell (p:=⟨w.heap.size,0,none⟩) (Nat.le_refl _) (.slice p1 pd.caps.length a1)).setCell (p:=⟨w.heap.size,1,none⟩) (Nat.le_refl _) (.slice p2 pd.bods.length a2)).setCell (p:=⟨w.heap.size+1,0,none⟩) (by show w.heap.size≤w.heap.size+1;omega) (Value.slice s1 D.ths.length c1)).setCell (p:=⟨w.heap.size+1,1,none⟩) (by show w.heap.size≤w.heap.size+1;omega) (Value.slice s2 D.chs.length c2)).setCell (p:=⟨w.heap.size+1,2,none⟩) (by show w.heap.size≤w.heap.size+1;omega) (Value.slice s3 D.tr.length c3)).drew
       rw [hWY] at K6
       have ee0:WY.cell? ⟨w.heap.size,0,none⟩=some (.slice p1 pd.caps.length a1):=by rw [← hWY];simp [go_sem,g0,g1,g2,f0,f1]
       have ee1:WY.cell? ⟨w.heap.size,1,none⟩=some (.slice p2 pd.bods.length a2):=by rw [← hWY];simp [go_sem,g0,g1,g2,f0,f1]
       have ee2:WY.cell? ⟨w.heap.size+1,0,none⟩=some (Value.slice s1 D.ths.length c1):=by rw [← hWY];simp [go_sem,g0,g1,g2,f0,f1]
       have ee3:WY.cell? ⟨w.heap.size+1,1,none⟩=some (Value.slice s2 D.chs.length c2):=by rw [← hWY];simp [go_sem,g0,g1,g2,f0,f1]
       have ee4:WY.cell? ⟨w.heap.size+1,2,none⟩=some (Value.slice s3 D.tr.length c3):=by rw [← hWY];simp [go_sem,g0,g1,g2,f0,f1]
       have N6:=hidR (ownLow' (O10.out.keep (w':=WY) (fun k a b=>hk6 k (by omega))) (by omega:w.heap.size≤V.heap.size))
       rw [hWY]
       clear hWY hk6 hz6 u1 u2 m0 m1 m2 mf k0 k1 kf ff gf F10 bl f0 f1 g0 g1 g2
       go_wp2
       refine bodyPost_ret (v:=.tuple #[.agg #[.slice p1 pd.caps.length a1,.slice p2 pd.bods.length a2],.agg #[Value.slice s1 D.ths.length c1,Value.slice s2 D.chs.length c2,Value.slice s3 D.tr.length c3],Value.slice (some ⟨w8.heap.size,0,none⟩) q.length q.length]) (by simp [results,Tryz.results6,go_sem,ee0,ee1,ee2,ee3,ee4]) rfl ⟨_,_,_,_,_,_,_,q,rfl,P6.out,S6.out,N6.out,HM.out,K6.out⟩
end Go.Proofs.YtknffngbdakblaaGreat
