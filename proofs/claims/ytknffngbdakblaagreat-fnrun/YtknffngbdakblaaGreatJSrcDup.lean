/- sameSource of the program and l4Copy of the specification. Conditions: each list of at most 1048576. -/
import Derived.Test.YtknffngbdakblaaGreatJG00
import Derived.Test.YtknffngbdakblaaGreatJG03
import Derived.Test.YtknffngbdakblaaGreatJG04
import Derived.Deep.RegionLaw
namespace Go.Proofs.YtknffngbdakblaaGreat
set_option linter.unusedSimpArgs false
set_option linter.unusedVariables false
set_option maxRecDepth 100000
open Go.RowKit
theorem rowI_of {w:World} {lo hi:Nat} {s:Option Addr} {l:List Int} (h:IntsR w lo hi s l) (hh:hi≤w.heap.size):RowI w w.heap.size s l:=by
 rcases h with h | ⟨g,o,hs,a,b,hc⟩
 ·exact .inl h
 ·exact .inr ⟨g,o,hs,by omega,hc⟩
theorem entimpl (args:Array Value) (w:World):(callFunc 44 args).run Tryz.prog w=.ok (.enter 44 args) w:=by kernel_rfl
set_option maxHeartbeats 8000000 in
theorem implDup_any (s1 s2 s3 : Option Addr) (c1 c2 c3 lo hi : Nat) (d : SD) (w : World) (h : SrcR w lo hi s1 s2 s3 d) (hB : hi ≤ w.heap.size) (hf : SFits d) :
  Calls Tryz.prog 27 #[.agg #[.slice s1 d.ths.length c1,.slice s2 d.chs.length c2,.slice s3 d.tr.length c3]] w fun e w'=>∃ v1 v2 v3 L1 L2,e=.returned (.agg #[v1,v2,v3])∧OwnS w' w.heap.size v1 v2 v3 L1 L2 d∧Below w.heap.size w w':=by
 have HS:Hid (SrcR w lo hi s1 s2 s3 d):=h
 have HF:Hid (SFits d):=hf
 obtain ⟨⟨f1,f1'⟩,⟨f2,f2'⟩,f3⟩:=hf
 clear h f1' f2'
 go_enter Tryz.func27,Tryz.ntmps27
 obtain ⟨W0,hW0,b0,k0,z0⟩:=Bo3.new w (.slice s1 d.ths.length c1) (.slice s2 d.chs.length c2) (.slice s3 d.tr.length c3) 32
 obtain ⟨W1,hW1,b1,k1,z1⟩:=BoF.new W0 (.slice none 0 0) (.slice none 0 0) (.slice none 0 0) 32
 have K1:Below w.heap.size w W1:=k0.trans (k1.mono (by omega))
 have B0:=b0.keep (Keep.of_below k1 (by omega))
 rw [z0] at b1
 have BB0:=(show Hid _ from B0)
 have BB1:=(show Hid _ from b1)
 have KK1:=(show Hid _ from K1)
 have zW:W1.heap.size=w.heap.size+2:=by omega
 rw [← hW0] at hW1
 have HW1:=(show Hid _ from hW1)
 clear b0 b1 B0 k0 k1 K1 hW0 hW1 z0 z1
 go_wp2_with (at_builtin;rw [HW1.out];refine app_copyD rfl _ _ rfl rfl W1 (w.heap.size+2) none 0 (by first | rfl | (rw [zW];rfl)) (World.ownsRow_nil _ _ _ _) s3 c3 d.tr (by rfl) (HS.out.2.2.keep (Keep.of_below (KK1.out) hB)) (by omega) (by omega) ?_;intro s4 c4 w1 ho1 hc1;have hlow:=hc1.low;have O1:=(show Hid _ from ho1);have C1:=(show Hid _ from hc1);have zl:=hlow.size;have zl2:w.heap.size+2≤w1.heap.size:=(by omega);have kw:Below (w.heap.size+2) W1 w1:=hlow;have pb:=BB0.out.keep (Keep.of_below kw (by omega));have pc0:=pb.c0;have pc1:=pb.c1;have R1:=(show Hid _ from BB1.out.below kw (by omega));have KW:Hid (Below w.heap.size w w1):=KK1.out.trans (kw.mono (by omega));have zl3:w.heap.size < w1.heap.size:=(by omega);clear ho1 hc1 hlow kw pb zl)
 have HO3:Hid (OwnD w1 (w.heap.size+2) (.slice s4 d.tr.length c4) d.tr):=O1.out
 have HS1:Hid (SrcR w1 lo hi s1 s2 s3 d):=HS.out.keep (Keep.of_below KW.out hB)
 clear O1 C1 HW1 BB0 BB1 KK1 HS
 go_loopw [15] (fun i wr=>∃ (k:Nat) (v1:Value) (L1:List (Rec×Value)),k≤d.ths.length∧i=.int .i64 k∧BoF w1.heap.size wr v1 (.slice none 0 0) (.slice s4 d.tr.length c4)∧OwnQ wr (w1.heap.size+1) 49 v1 L1∧L1.map Prod.fst=(d.ths.take k).map TD.rec3∧Below w1.heap.size w1 wr∧w1.heap.size+1≤wr.heap.size) (fun i _=>d.ths.length - (intOf i).toNat)
 case atStart=>
  obtain ⟨X,hX,bx,kx,zx⟩:=BoF.new w1 (.slice none 0 0) (.slice none 0 0) (.slice s4 d.tr.length c4) 32
  rw [hX]
  exact ⟨0,_,[],Nat.zero_le _,rfl,bx,OwnQ.nil _ _ _,rfl,kx,by omega⟩
 case round=>
  obtain ⟨k,v1,L1,hk,rfl,hx,ho,hm,hb,hz⟩:=hrel
  have HX:Hid (BoF w1.heap.size wr v1 (.slice none 0 0) (.slice s4 d.tr.length c4)):=hx
  have HO:Hid (OwnQ wr (w1.heap.size+1) 49 v1 L1):=ho
  have HM:Hid (L1.map Prod.fst=(d.ths.take k).map TD.rec3):=hm
  have HL1:Hid (L1.length≤1048576):=by have:=congrArg List.length hm;simp at this;show L1.length≤1048576;omega
  have HB:Hid (Below w1.heap.size w1 wr):=hb
  have q0:=(hb.cell (p:=⟨w.heap.size,0,none⟩) (by show w.heap.size < _;omega)).trans pc0
  have q1:=(hb.cell (p:=⟨w.heap.size,1,none⟩) (by show w.heap.size < _;omega)).trans pc1
  have g0:=hx.c0
  have l1:w1.heap.size < wr.heap.size:=by omega
  have l2:w.heap.size < wr.heap.size:=by omega
  clear hx ho hm hb
  by_cases hlt:k < d.ths.length
  ·obtain ⟨t,ht⟩:∃ t,d.ths[k]? =some t:=⟨_,List.getElem?_eq_getElem hlt⟩
   obtain ⟨g,off,hs,hg,hc⟩:∃ g off,s1=some ⟨g,off,none⟩∧g < hi∧RecR wr lo hi g (off+k * 3) t.rec3:=by
    rcases HS1.out.1 with h | ⟨g,off,a,b,e,f⟩
    ·have:d.ths=[]:=by simpa using h
     rw [this] at hlt;simp at hlt
    ·exact ⟨g,off,a,e,(f k t.rec3 (by rw [List.getElem?_map,ht];rfl)).keep (Keep.of_below HB.out (by omega)) (fun j=>HB.out.cell (p:=⟨g,j,none⟩) (by show g < _;omega))⟩
   subst hs
   have hlen:=HF.out.1.2 k t ht
   have HT:Hid (d.ths[k]? =some t):=ht
   obtain ⟨sx,cx,r0,r1,r2,hin⟩:=hc
   obtain ⟨pc,rg,st⟩:=t
   simp only [TD.rec3] at r0 r1 r2 hin hlen
   have HIN:Hid (IntsR wr lo hi sx rg):=hin
   clear ht hin
   have b0:(0:Int)≤(k:Int):=by omega
   have b1:(k:Int) < (d.ths.length:Int):=by omega
   have bt0:BoF wr.heap.size (wr.alloc (.cells #[.int .i64 pc,.slice sx rg.length cx,.int .i64 st] 49)) (.int .i64 pc) (.slice sx rg.length cx) (.int .i64 st):=⟨by simp [go_sem],by simp [go_sem],by simp [go_sem],fun j=>by simp [go_sem],by simp⟩
   have n1:w1.heap.size≠wr.heap.size:=by omega
   have n2:wr.heap.size≠w1.heap.size:=by omega
   go_wp2_with (first | (at_builtin;refine app_copyI rfl _ _ rfl rfl (wr.alloc (.cells #[.int .i64 pc,.slice sx rg.length cx,.int .i64 st] 49)) (w1.heap.size+1) none 0 rfl (World.ownsRow_nil _ _ _ _) sx cx rg (by rfl) (HIN.out.keep (Keep.of_below ((Below.refl wr.heap.size wr).alloc (Nat.le_refl _) _) (by omega))) (by omega) (by simp;omega) ?_;intro s5 c5 w5 ho5 hc5;have hX:(wr.alloc (.cells #[.int .i64 pc,.slice sx rg.length cx,.int .i64 st] 49)).heap.size=wr.heap.size+1:=(by simp);have zc:=hc5.low.size;rw [hX] at zc;have hfar:∀ k,k < wr.heap.size→w5.heap[k]? =wr.heap[k]? :=(fun k hk=>(hc5.far k (by rw [hX];omega) (fun e=>by cases e)).trans (((Below.refl wr.heap.size wr).alloc (Nat.le_refl _) _).block k hk));have x5:=HX.out.keep (hfar w1.heap.size l1) (by omega);have d0:=x5.c0;have d1:=x5.f;have b5:=(show BoF wr.heap.size (wr.alloc (.cells #[.int .i64 pc,.slice sx rg.length cx,.int .i64 st] 49)) (.int .i64 pc) (.slice sx rg.length cx) (.int .i64 st) from bt0).keep (hc5.far wr.heap.size (by rw [hX];omega) (fun e=>by cases e)) (by rw [hX];omega);have e5:=b5.c0;have e6:=b5.c1;have e7:=b5.c2;have e8:=b5.f;have l5:w1.heap.size < w5.heap.size:=(by omega);have l6:wr.heap.size < w5.heap.size:=(by omega);have O5:=(show Hid _ from ho5);have C5:=(show Hid _ from hc5);have F5:=(show Hid _ from hfar);have X5:=(show Hid _ from x5);have Z5:Hid (wr.heap.size+1≤w5.heap.size):=zc;have HXS:=(show Hid _ from hX);clear ho5 hc5 hfar x5 b5 zc hX) | (at_builtin;refine app_thread rfl _ _ rfl (w5.setCell ⟨wr.heap.size,1,none⟩ (.slice s5 rg.length c5)) pc rg (.slice s5 rg.length c5) st (w1.heap.size+1) v1 L1 rfl (HO.out.keep (fun k hk hk'=>(Below.heap_setCell _ _ _ k (by show k≠wr.heap.size;omega)).trans (F5.out k hk'))) (ownKeep' O5.out (fun k hk=>Below.heap_setCell _ _ _ k (by show k≠wr.heap.size;have h:=C5.out.blk k hk;rw [HXS.out] at h;rcases h with h | h;omega;cases h))) (by rw [World.size_setCell];rfl) (by have:=HL1.out;omega) (by rw [World.size_setCell];omega) rfl (fun i z k hz hk hk'=>by have h1:=(World.ownsRow.lt (HO.out.inn i z hz) _ hk').2;have h:=C5.out.blk k hk;rw [HXS.out] at h;rcases h with h | h;omega;cases h) ?_;intro g6 cap6 w6 hp6;have hG6:w6.heap[w1.heap.size]? =w5.heap[w1.heap.size]? :=(hp6.far w1.heap.size (by rw [World.size_setCell];omega) (fun e=>by have:=(World.ownsRow.lt HO.out.row _ e).1;omega)).trans (Below.heap_setCell _ _ _ _ (by show w1.heap.size≠wr.heap.size;omega));have hz6:w5.heap.size≤w6.heap.size:=(by have h:=hp6.low.size;rw [World.size_setCell] at h;exact h);have x6:=X5.out.keep hG6 hz6;have d2:=x6.c0;have d3:=x6.f;have X6:=(show Hid _ from x6);have P6:=(show Hid _ from hp6);clear x6 hp6 hG6))
   go_roundw
   case rel=>
    obtain ⟨p1,p2,p3,p4⟩:=P6.out
    refine ⟨k+1,_,L1++[(⟨.int .i64 pc,rg,.int .i64 st⟩,.slice s5 rg.length c5)],by omega,by go_num,X6.out.set0 _,p1.keep (fun k hk hk'=>Below.heap_setCell _ _ _ k (by show k≠w1.heap.size;omega)),?_,?_,by simp;have:=Z5.out;omega⟩
    ·rw [List.map_append,HM.out,List.take_add_one,HT.out,List.map_append];rfl
    ·have hl:=C5.out.low
     have hp:=p3
     exact (HB.out.trans ((((Below.refl wr.heap.size wr).alloc (Nat.le_refl _) _).mono (by omega)).trans ((hl.mono (by omega)).trans (((Below.refl w1.heap.size w5).setCell (p:=⟨wr.heap.size,1,none⟩) (by show w1.heap.size≤wr.heap.size;omega) _).trans (hp.mono (by omega)))))).setCell (p:=⟨w1.heap.size,0,none⟩) (Nat.le_refl _) _
   case measure=>simp [intOf];omega
  ·have hke:k=d.ths.length:=by omega
   subst hke
   have HM0:Hid (L1.map Prod.fst=d.ths.map TD.rec3):=by have h:=HM.out;rw [List.take_length] at h;exact h
   clear hlt hk HM
   go_wp2
   go_loopw [33] (fun i wr=>∃ (k:Nat) (v2:Value) (L2:List (Rec×Value)),k≤d.chs.length∧i=.int .i64 k∧BoF w1.heap.size wr v1 v2 (.slice s4 d.tr.length c4)∧OwnQ wr (w1.heap.size+1) 49 v1 L1∧OwnQ wr (w1.heap.size+1) 65 v2 L2∧(∀ (i j:Nat) (x y:Rec×Value) (k:Nat),L1[i]? =some x→L2[j]? =some y→x.2.ownBlock=some k→y.2.ownBlock≠some k)∧L2.map Prod.fst=(d.chs.take k).map CD.rec3∧Below w1.heap.size w1 wr∧w1.heap.size+1≤wr.heap.size) (fun i _=>d.chs.length - (intOf i).toNat)
   case atStart=>exact ⟨0,_,[],Nat.zero_le _,rfl,HX.out,HO.out,OwnQ.nil _ _ _,fun i j x y k hx hy=>by simp at hy,rfl,HB.out,hz⟩
   case round=>
    clear HX HO HB q0 q1 g0 hz l1 l2
    obtain ⟨k,v2,L2,hk,rfl,hx,ho,ho2,hsp,hm2,hb,hz⟩:=hrel
    have HX:Hid (BoF w1.heap.size wr v1 v2 (.slice s4 d.tr.length c4)):=hx
    have HO:Hid (OwnQ wr (w1.heap.size+1) 49 v1 L1):=ho
    have HO2:Hid (OwnQ wr (w1.heap.size+1) 65 v2 L2):=ho2
    have HSP:=(show Hid _ from hsp)
    have HM2:Hid (L2.map Prod.fst=(d.chs.take k).map CD.rec3):=hm2
    have HL2:Hid (L2.length≤1048576):=by have:=congrArg List.length hm2;simp at this;show L2.length≤1048576;omega
    have HB:Hid (Below w1.heap.size w1 wr):=hb
    have q1:=(hb.cell (p:=⟨w.heap.size,1,none⟩) (by show w.heap.size < _;omega)).trans pc1
    have g0:=hx.c0
    have g1:=hx.c1
    have g2:=hx.c2
    have l1:w1.heap.size < wr.heap.size:=by omega
    have l2:w.heap.size < wr.heap.size:=by omega
    clear hx ho ho2 hm2 hb hsp
    by_cases hlt:k < d.chs.length
    ·obtain ⟨t,ht⟩:∃ t,d.chs[k]? =some t:=⟨_,List.getElem?_eq_getElem hlt⟩
     obtain ⟨g,off,hs,hg,hc⟩:∃ g off,s2=some ⟨g,off,none⟩∧g < hi∧RecR wr lo hi g (off+k * 3) t.rec3:=by
      rcases HS1.out.2.1 with h | ⟨g,off,a,b,e,f⟩
      ·have:d.chs=[]:=by simpa using h
       rw [this] at hlt;simp at hlt
      ·exact ⟨g,off,a,e,(f k t.rec3 (by rw [List.getElem?_map,ht];rfl)).keep (Keep.of_below HB.out (by omega)) (fun j=>HB.out.cell (p:=⟨g,j,none⟩) (by show g < _;omega))⟩
     subst hs
     have hlen:=HF.out.2.1.2 k t ht
     have HT:Hid (d.chs[k]? =some t):=ht
     obtain ⟨sx,cx,r0,r1,r2,hin⟩:=hc
     obtain ⟨pc,rg,st⟩:=t
     simp only [CD.rec3] at r0 r1 r2 hin hlen
     have HIN:Hid (IntsR wr lo hi sx rg):=hin
     clear ht hin
     have b0:(0:Int)≤(k:Int):=by omega
     have b1:(k:Int) < (d.chs.length:Int):=by omega
     have l3:g < wr.heap.size:=by omega
     go_wp2
     go_region_law (first | (refine step_chan (by rfl) _ _ (by rfl) w5 pc rg (.slice s5 rg.length c5) st (w1.heap.size+1) v2 L2 (by rfl) (HO2.out.keep (fun k hk hk'=>hfar k hk')) (ownLow' ho5 (by omega)) (by rfl) (by have:=HL2.out;omega) (by omega) rfl (fun i z k hz hk hk'=>by have h1:=(World.ownsRow.lt (HO2.out.inn i z hz) _ hk').2;have h2:=(World.ownsRow.lt ho5 _ hk).1;omega) ?_;intro g6 cap6 w6 hp6;have hG6:w6.heap[w1.heap.size]? =w5.heap[w1.heap.size]? :=hp6.far w1.heap.size (by omega) (fun e=>by have:=(World.ownsRow.lt HO2.out.row _ e).1;omega);have hz6:w5.heap.size≤w6.heap.size:=hp6.low.size;have x6:=x5.keep hG6 hz6;have d2:=x6.c1;have d3:=x6.f) | (refine stepC 44 #[.agg #[.int .i64 pc,.slice sx rg.length cx,.bool st]] (by rfl) _ _ (by rfl) (by simp [go_sem]) entimpl ?_;refine (sameChan_any pc sx rg cx st (wr.alloc (.cells #[.int .i64 pc,.slice sx rg.length cx,.bool st] 65)).drew (rowI_of (HIN.out.keep (Keep.of_below (Below.drew ((Below.refl wr.heap.size wr).alloc (Nat.le_refl _) _)) (by omega))) (by show _≤(wr.alloc (.cells #[.int .i64 pc,.slice sx rg.length cx,.bool st] 65)).drew.heap.size;have:(wr.alloc (.cells #[.int .i64 pc,.slice sx rg.length cx,.bool st] 65)).drew.heap.size=wr.heap.size+1:=(by simp);omega)) (by omega)).mono ?_;rintro e w5 ⟨u5,rfl,ho5',hb5',hz5'⟩;have hY:(wr.alloc (.cells #[.int .i64 pc,.slice sx rg.length cx,.bool st] 65)).drew.heap.size=wr.heap.size+1:=(by simp);have ho5:=ho5';have hb5:=hb5';have hz5:=hz5';rw [hY] at ho5 hb5 hz5;obtain ⟨s5,c5,rfl⟩:=ho5.sl;have hfar:∀ k,k < wr.heap.size→w5.heap[k]? =wr.heap[k]? :=(fun k hk=>(hb5.block k (by omega)).trans ((Below.drew ((Below.refl wr.heap.size wr).alloc (Nat.le_refl _) _)).block k hk));have x5:=HX.out.keep (hfar w1.heap.size l1) (by omega);have d0:=x5.c1;have d1:=x5.f;have l5:w1.heap.size < w5.heap.size:=(by omega);refine ⟨_,rfl,?_⟩))
     all_goals
      have P6:=(show Hid _ from hp6)
      have X6:=(show Hid _ from x6)
      have F5:=(show Hid _ from hfar)
      have O5:=(show Hid _ from ho5)
      have B5:=(show Hid _ from hb5)
      have S5:=(show Hid _ from hz5)
      clear hp6 x6 hfar ho5 hb5 hz5 ho5' hb5' hz5' x5 hG6 d0 d1 hY
      go_wp2
      go_roundw
      case rel=>
       obtain ⟨p1,p2,p3,p4⟩:=P6.out
       have hzz:=S5.out
       have e5:∀ k,k < wr.heap.size→v2.ownBlock≠some k→w6.heap[k]? =wr.heap[k]? :=fun k hk hne=>(p2 k (by omega) hne).trans (F5.out k hk)
       refine ⟨k+1,_,L2++[(⟨.int .i64 pc,rg,.bool st⟩,.slice s5 rg.length c5)],by omega,by go_num,X6.out.set1 _,?_,p1.keep (fun k hk hk'=>Below.heap_setCell _ _ _ k (by show k≠w1.heap.size;omega)),?_,?_,?_,by simp;omega⟩
       ·refine (HO.out.keepB (w':=w6) ?_ ?_).keep (fun k hk hk'=>Below.heap_setCell _ _ _ k (by show k≠w1.heap.size;omega))
        ·intro k hk
         exact e5 k (World.ownsRow.lt HO.out.row _ hk).2 (ownType' HO.out.row HO2.out.row (by decide) hk)
        ·intro i x hx k hk
         exact e5 k (World.ownsRow.lt (HO.out.inn i x hx) _ hk).2 (ownType' (HO.out.inn i x hx) HO2.out.row (by decide) hk)
       ·intro i j x y kk hx hy hxk
        by_cases hj:j < L2.length
        ·rw [List.getElem?_append_left hj] at hy
         exact HSP.out i j x y kk hx hy hxk
        ·rw [List.getElem?_append_right (by omega)] at hy
         have hj0:j - L2.length=0:=by have:=(List.getElem?_eq_some_iff.1 hy).1;simp at this;omega
         rw [hj0] at hy
         simp at hy
         rw [← hy]
         intro hyk
         have h1:=(World.ownsRow.lt (HO.out.inn i x hx) _ hxk).2
         have h2:=(World.ownsRow.lt O5.out _ hyk).1
         omega
       ·rw [List.map_append,HM2.out,List.take_add_one,HT.out,List.map_append];rfl
       ·exact (HB.out.trans (((Below.drew ((Below.refl wr.heap.size wr).alloc (Nat.le_refl _) _)).mono (by omega)).trans ((B5.out.mono (by omega)).trans (p3.mono (by omega))))).setCell (p:=⟨w1.heap.size,1,none⟩) (Nat.le_refl _) _
      case measure=>simp [intOf];omega
    ·have hke:k=d.chs.length:=by omega
     subst hke
     clear hlt hk
     have r1:=R1.out.below HB.out (by omega)
     have y0:=r1.c0
     have y1:=r1.c1
     have y2:=r1.c2
     have y3:=r1.f
     have RR:Hid (BoF (w.heap.size+1) wr (.slice none 0 0) (.slice none 0 0) (.slice none 0 0)):=r1
     clear r1
     obtain ⟨t1,e1,hv1⟩:=ownSl HO.out.row
     obtain ⟨t2,e2,hv2⟩:=ownSl HO2.out.row
     subst hv1
     subst hv2
     go_wp2
     have W3:=((RR.out.set0 (.slice t1 L1.length e1)).set1 (.slice t2 L2.length e2)).set2 (.slice s4 d.tr.length c4)
     have far:∀ k,w.heap.size+2≤k→(((wr.setCell ⟨w.heap.size+1,0,none⟩ (.slice t1 L1.length e1)).setCell ⟨w.heap.size+1,1,none⟩ (.slice t2 L2.length e2)).setCell ⟨w.heap.size+1,2,none⟩ (.slice s4 d.tr.length c4)).heap[k]? =wr.heap[k]? :=fun k hk=>by rw [Below.heap_setCell _ _ _ k (by show k≠w.heap.size+1;omega),Below.heap_setCell _ _ _ k (by show k≠w.heap.size+1;omega),Below.heap_setCell _ _ _ k (by show k≠w.heap.size+1;omega)]
     refine bodyPost_ret (v:=.agg #[.slice t1 L1.length e1,.slice t2 L2.length e2,.slice s4 d.tr.length c4]) (by simp [results,Tryz.results27,go_sem,W3.c0,W3.c1,W3.c2]) rfl ⟨_,_,_,L1,L2,rfl,⟨HM0.out,?_,?_,?_,?_,HSP.out⟩,?_⟩
     ·have h:=HM2.out;rw [List.take_length] at h;exact h
     ·exact (HO.out.keep (fun k hk _=>far k (by omega))).low (by omega)
     ·exact (HO2.out.keep (fun k hk _=>far k (by omega))).low (by omega)
     ·refine ownLow' (ownKeep' HO3.out (fun k hk=>?_)) (by omega)
      have h1:=World.ownsRow.lt HO3.out _ hk
      exact (far k h1.1).trans (HB.out.block k h1.2)
     ·exact (((KW.out.trans (HB.out.mono (by omega))).setCell (p:=⟨w.heap.size+1,0,none⟩) (by show w.heap.size≤w.heap.size+1;omega) _).setCell (p:=⟨w.heap.size+1,1,none⟩) (by show w.heap.size≤w.heap.size+1;omega) _).setCell (p:=⟨w.heap.size+1,2,none⟩) (by show w.heap.size≤w.heap.size+1;omega) _
theorem entspec (args:Array Value) (w:World):(callFunc 53 args).run Tryz.prog w=.ok (.enter 53 args) w:=by kernel_rfl
set_option maxHeartbeats 8000000 in
theorem specDup_any (s1 s2 s3 : Option Addr) (c1 c2 c3 lo hi : Nat) (d : SD) (w : World) (h : SrcR w lo hi s1 s2 s3 d) (hB : hi ≤ w.heap.size) (hf : SFits d) :
  Calls Tryz.prog 30 #[.agg #[.slice s1 d.ths.length c1,.slice s2 d.chs.length c2,.slice s3 d.tr.length c3]] w fun e w'=>∃ v1 v2 v3 L1 L2,e=.returned (.agg #[v1,v2,v3])∧OwnS w' w.heap.size v1 v2 v3 L1 L2 d∧Below w.heap.size w w':=by
 have HS:Hid (SrcR w lo hi s1 s2 s3 d):=h
 have HF:Hid (SFits d):=hf
 obtain ⟨⟨f1,f1'⟩,⟨f2,f2'⟩,f3⟩:=hf
 clear h f1' f2'
 go_enter Tryz.func30,Tryz.ntmps30
 obtain ⟨W0,hW0,b0,k0,z0⟩:=Bo3.new w (.slice s1 d.ths.length c1) (.slice s2 d.chs.length c2) (.slice s3 d.tr.length c3) 32
 obtain ⟨W1,hW1,b1,k1,z1⟩:=BoF.new W0 (.slice none 0 0) (.slice none 0 0) (.slice none 0 0) 32
 have K1:Below w.heap.size w W1:=k0.trans (k1.mono (by omega))
 have B0:=b0.keep (Keep.of_below k1 (by omega))
 rw [z0] at b1
 have BB0:=(show Hid _ from B0)
 have BB1:=(show Hid _ from b1)
 have KK1:=(show Hid _ from K1)
 have zW:W1.heap.size=w.heap.size+2:=by omega
 rw [← hW0] at hW1
 have HW1:=(show Hid _ from hW1)
 clear b0 b1 B0 k0 k1 K1 hW0 hW1 z0 z1
 go_wp2_with (at_builtin;rw [HW1.out];refine app_copyD rfl _ _ rfl rfl (W1.alloc (.cells #[] 67)) (w.heap.size+2) (some ⟨W1.heap.size,0,none⟩) 0 (by first | rfl | (rw [zW];rfl)) (World.ownsRow_lit W1 #[] 0 (by omega) (by unfold maxLen;omega) rfl) s3 c3 d.tr (by rfl) (HS.out.2.2.keep (Keep.of_below (KK1.out.alloc (by omega) _) hB)) (by omega) (by simp;omega) ?_;intro s4 c4 w1 ho1 hc1;have hlow:=hc1.low;have O1:=(show Hid _ from ho1);have C1:=(show Hid _ from hc1);have zl:=hlow.size;have zl2:w.heap.size+2≤w1.heap.size:=(by simp at zl;omega);have kw:Below (w.heap.size+2) W1 w1:=((Below.refl _ _).alloc (by omega) _).trans hlow;have pb:=BB0.out.keep (Keep.of_below kw (by omega));have pc0:=pb.c0;have pc1:=pb.c1;have R1:=(show Hid _ from BB1.out.below kw (by omega));have KW:Hid (Below w.heap.size w w1):=KK1.out.trans (kw.mono (by omega));have zl3:w.heap.size < w1.heap.size:=(by omega);clear ho1 hc1 hlow kw pb zl)
 have HO3:Hid (OwnD w1 (w.heap.size+2) (.slice s4 d.tr.length c4) d.tr):=O1.out
 have HS1:Hid (SrcR w1 lo hi s1 s2 s3 d):=HS.out.keep (Keep.of_below KW.out hB)
 clear O1 C1 HW1 BB0 BB1 KK1 HS
 go_loopw [4] (fun i wr=>∃ (k:Nat) (v1:Value) (L1:List (Rec×Value)),k≤d.ths.length∧i=.int .i64 k∧BoF w1.heap.size wr v1 (.slice none 0 0) (.slice s4 d.tr.length c4)∧OwnQ wr (w1.heap.size+1) 49 v1 L1∧L1.map Prod.fst=(d.ths.take k).map TD.rec3∧Below w1.heap.size w1 wr∧w1.heap.size+1≤wr.heap.size) (fun i _=>d.ths.length - (intOf i).toNat)
 case atStart=>
  obtain ⟨X,hX,bx,kx,zx⟩:=BoF.new w1 (.slice none 0 0) (.slice none 0 0) (.slice s4 d.tr.length c4) 32
  rw [hX]
  exact ⟨0,_,[],Nat.zero_le _,rfl,bx,OwnQ.nil _ _ _,rfl,kx,by omega⟩
 case round=>
  obtain ⟨k,v1,L1,hk,rfl,hx,ho,hm,hb,hz⟩:=hrel
  have HX:Hid (BoF w1.heap.size wr v1 (.slice none 0 0) (.slice s4 d.tr.length c4)):=hx
  have HO:Hid (OwnQ wr (w1.heap.size+1) 49 v1 L1):=ho
  have HM:Hid (L1.map Prod.fst=(d.ths.take k).map TD.rec3):=hm
  have HL1:Hid (L1.length≤1048576):=by have:=congrArg List.length hm;simp at this;show L1.length≤1048576;omega
  have HB:Hid (Below w1.heap.size w1 wr):=hb
  have q0:=(hb.cell (p:=⟨w.heap.size,0,none⟩) (by show w.heap.size < _;omega)).trans pc0
  have q1:=(hb.cell (p:=⟨w.heap.size,1,none⟩) (by show w.heap.size < _;omega)).trans pc1
  have g0:=hx.c0
  have l1:w1.heap.size < wr.heap.size:=by omega
  have l2:w.heap.size < wr.heap.size:=by omega
  clear hx ho hm hb
  by_cases hlt:k < d.ths.length
  ·obtain ⟨t,ht⟩:∃ t,d.ths[k]? =some t:=⟨_,List.getElem?_eq_getElem hlt⟩
   obtain ⟨g,off,hs,hg,hc⟩:∃ g off,s1=some ⟨g,off,none⟩∧g < hi∧RecR wr lo hi g (off+k * 3) t.rec3:=by
    rcases HS1.out.1 with h | ⟨g,off,a,b,e,f⟩
    ·have:d.ths=[]:=by simpa using h
     rw [this] at hlt;simp at hlt
    ·exact ⟨g,off,a,e,(f k t.rec3 (by rw [List.getElem?_map,ht];rfl)).keep (Keep.of_below HB.out (by omega)) (fun j=>HB.out.cell (p:=⟨g,j,none⟩) (by show g < _;omega))⟩
   subst hs
   have hlen:=HF.out.1.2 k t ht
   have HT:Hid (d.ths[k]? =some t):=ht
   obtain ⟨sx,cx,r0,r1,r2,hin⟩:=hc
   obtain ⟨pc,rg,st⟩:=t
   simp only [TD.rec3] at r0 r1 r2 hin hlen
   have HIN:Hid (IntsR wr lo hi sx rg):=hin
   clear ht hin
   have b0:(0:Int)≤(k:Int):=by omega
   have b1:(k:Int) < (d.ths.length:Int):=by omega
   have bt0:BoF wr.heap.size (wr.alloc (.cells #[.int .i64 pc,.slice sx rg.length cx,.int .i64 st] 49)) (.int .i64 pc) (.slice sx rg.length cx) (.int .i64 st):=⟨by simp [go_sem],by simp [go_sem],by simp [go_sem],fun j=>by simp [go_sem],by simp⟩
   have n1:w1.heap.size≠wr.heap.size:=by omega
   have n2:wr.heap.size≠w1.heap.size:=by omega
   go_wp2_with (first | (at_builtin;refine app_copyI rfl _ _ rfl rfl ((wr.alloc (.cells #[.int .i64 pc,.slice sx rg.length cx,.int .i64 st] 49)).alloc (.cells #[] 3)) (w1.heap.size+1) (some ⟨wr.heap.size+1,0,none⟩) 0 rfl (by have h:=ownN_empty (w:=wr.alloc (.cells #[.int .i64 pc,.slice sx rg.length cx,.int .i64 st] 49)) (base:=w1.heap.size+1) (by simp;omega);rw [World.size_alloc] at h;exact h) sx cx rg (by rfl) (HIN.out.keep (Keep.of_below (((Below.refl wr.heap.size wr).alloc (Nat.le_refl _) _).alloc (by simp) _) (by omega))) (by omega) (by simp;omega) ?_;intro s5 c5 w5 ho5 hc5;have hX:((wr.alloc (.cells #[.int .i64 pc,.slice sx rg.length cx,.int .i64 st] 49)).alloc (.cells #[] 3)).heap.size=wr.heap.size+2:=(by simp);have zc:=hc5.low.size;rw [hX] at zc;have hfar:∀ k,k < wr.heap.size→w5.heap[k]? =wr.heap[k]? :=(fun k hk=>(hc5.far k (by rw [hX];omega) (fun e=>by injection e with e;have e2:wr.heap.size+1=_:=e;omega)).trans ((((Below.refl wr.heap.size wr).alloc (Nat.le_refl _) _).alloc (by simp) _).block k hk));have x5:=HX.out.keep (hfar w1.heap.size l1) (by omega);have d0:=x5.c0;have d1:=x5.f;have b5:=(show BoF wr.heap.size ((wr.alloc (.cells #[.int .i64 pc,.slice sx rg.length cx,.int .i64 st] 49)).alloc (.cells #[] 3)) (.int .i64 pc) (.slice sx rg.length cx) (.int .i64 st) from (bt0.below ((Below.refl (wr.heap.size+1) _).alloc (by simp) _) (by omega))).keep (hc5.far wr.heap.size (by rw [hX];omega) (fun e=>by injection e with e;have e2:wr.heap.size+1=_:=e;omega)) (by rw [hX];omega);have e5:=b5.c0;have e6:=b5.c1;have e7:=b5.c2;have e8:=b5.f;have l5:w1.heap.size < w5.heap.size:=(by omega);have l6:wr.heap.size < w5.heap.size:=(by omega);have O5:=(show Hid _ from ho5);have C5:=(show Hid _ from hc5);have F5:=(show Hid _ from hfar);have X5:=(show Hid _ from x5);have Z5:Hid (wr.heap.size+2≤w5.heap.size):=zc;have HXS:=(show Hid _ from hX);clear ho5 hc5 hfar x5 b5 zc hX) | (at_builtin;refine app_thread rfl _ _ rfl (w5.setCell ⟨wr.heap.size,1,none⟩ (.slice s5 rg.length c5)) pc rg (.slice s5 rg.length c5) st (w1.heap.size+1) v1 L1 rfl (HO.out.keep (fun k hk hk'=>(Below.heap_setCell _ _ _ k (by show k≠wr.heap.size;omega)).trans (F5.out k hk'))) (ownKeep' O5.out (fun k hk=>Below.heap_setCell _ _ _ k (by show k≠wr.heap.size;have h:=C5.out.blk k hk;rw [HXS.out] at h;rcases h with h | h;omega;injection h with h;have h2:wr.heap.size+1=k:=h;omega))) (by rw [World.size_setCell];rfl) (by have:=HL1.out;omega) (by rw [World.size_setCell];omega) rfl (fun i z k hz hk hk'=>by have h1:=(World.ownsRow.lt (HO.out.inn i z hz) _ hk').2;have h:=C5.out.blk k hk;rw [HXS.out] at h;rcases h with h | h;omega;injection h with h;have h2:wr.heap.size+1=k:=h;omega) ?_;intro g6 cap6 w6 hp6;have hG6:w6.heap[w1.heap.size]? =w5.heap[w1.heap.size]? :=(hp6.far w1.heap.size (by rw [World.size_setCell];omega) (fun e=>by have:=(World.ownsRow.lt HO.out.row _ e).1;omega)).trans (Below.heap_setCell _ _ _ _ (by show w1.heap.size≠wr.heap.size;omega));have hz6:w5.heap.size≤w6.heap.size:=(by have h:=hp6.low.size;rw [World.size_setCell] at h;exact h);have x6:=X5.out.keep hG6 hz6;have d2:=x6.c0;have d3:=x6.f;have X6:=(show Hid _ from x6);have P6:=(show Hid _ from hp6);clear x6 hp6 hG6))
   go_roundw
   case rel=>
    obtain ⟨p1,p2,p3,p4⟩:=P6.out
    refine ⟨k+1,_,L1++[(⟨.int .i64 pc,rg,.int .i64 st⟩,.slice s5 rg.length c5)],by omega,by go_num,X6.out.set0 _,p1.keep (fun k hk hk'=>Below.heap_setCell _ _ _ k (by show k≠w1.heap.size;omega)),?_,?_,by simp;have:=Z5.out;omega⟩
    ·rw [List.map_append,HM.out,List.take_add_one,HT.out,List.map_append];rfl
    ·have hl:=C5.out.low
     have hp:=p3
     exact (HB.out.trans (((((Below.refl wr.heap.size wr).alloc (Nat.le_refl _) _).alloc (by simp) _).mono (by omega)).trans ((hl.mono (by omega)).trans (((Below.refl w1.heap.size w5).setCell (p:=⟨wr.heap.size,1,none⟩) (by show w1.heap.size≤wr.heap.size;omega) _).trans (hp.mono (by omega)))))).setCell (p:=⟨w1.heap.size,0,none⟩) (Nat.le_refl _) _
   case measure=>simp [intOf];omega
  ·have hke:k=d.ths.length:=by omega
   subst hke
   have HM0:Hid (L1.map Prod.fst=d.ths.map TD.rec3):=by have h:=HM.out;rw [List.take_length] at h;exact h
   clear hlt hk HM
   go_wp2
   go_loopw [6] (fun i wr=>∃ (k:Nat) (v2:Value) (L2:List (Rec×Value)),k≤d.chs.length∧i=.int .i64 k∧BoF w1.heap.size wr v1 v2 (.slice s4 d.tr.length c4)∧OwnQ wr (w1.heap.size+1) 49 v1 L1∧OwnQ wr (w1.heap.size+1) 65 v2 L2∧(∀ (i j:Nat) (x y:Rec×Value) (k:Nat),L1[i]? =some x→L2[j]? =some y→x.2.ownBlock=some k→y.2.ownBlock≠some k)∧L2.map Prod.fst=(d.chs.take k).map CD.rec3∧Below w1.heap.size w1 wr∧w1.heap.size+1≤wr.heap.size) (fun i _=>d.chs.length - (intOf i).toNat)
   case atStart=>exact ⟨0,_,[],Nat.zero_le _,rfl,HX.out,HO.out,OwnQ.nil _ _ _,fun i j x y k hx hy=>by simp at hy,rfl,HB.out,hz⟩
   case round=>
    clear HX HO HB q0 q1 g0 hz l1 l2
    obtain ⟨k,v2,L2,hk,rfl,hx,ho,ho2,hsp,hm2,hb,hz⟩:=hrel
    have HX:Hid (BoF w1.heap.size wr v1 v2 (.slice s4 d.tr.length c4)):=hx
    have HO:Hid (OwnQ wr (w1.heap.size+1) 49 v1 L1):=ho
    have HO2:Hid (OwnQ wr (w1.heap.size+1) 65 v2 L2):=ho2
    have HSP:=(show Hid _ from hsp)
    have HM2:Hid (L2.map Prod.fst=(d.chs.take k).map CD.rec3):=hm2
    have HL2:Hid (L2.length≤1048576):=by have:=congrArg List.length hm2;simp at this;show L2.length≤1048576;omega
    have HB:Hid (Below w1.heap.size w1 wr):=hb
    have q1:=(hb.cell (p:=⟨w.heap.size,1,none⟩) (by show w.heap.size < _;omega)).trans pc1
    have g0:=hx.c0
    have g1:=hx.c1
    have g2:=hx.c2
    have l1:w1.heap.size < wr.heap.size:=by omega
    have l2:w.heap.size < wr.heap.size:=by omega
    clear hx ho ho2 hm2 hb hsp
    by_cases hlt:k < d.chs.length
    ·obtain ⟨t,ht⟩:∃ t,d.chs[k]? =some t:=⟨_,List.getElem?_eq_getElem hlt⟩
     obtain ⟨g,off,hs,hg,hc⟩:∃ g off,s2=some ⟨g,off,none⟩∧g < hi∧RecR wr lo hi g (off+k * 3) t.rec3:=by
      rcases HS1.out.2.1 with h | ⟨g,off,a,b,e,f⟩
      ·have:d.chs=[]:=by simpa using h
       rw [this] at hlt;simp at hlt
      ·exact ⟨g,off,a,e,(f k t.rec3 (by rw [List.getElem?_map,ht];rfl)).keep (Keep.of_below HB.out (by omega)) (fun j=>HB.out.cell (p:=⟨g,j,none⟩) (by show g < _;omega))⟩
     subst hs
     have hlen:=HF.out.2.1.2 k t ht
     have HT:Hid (d.chs[k]? =some t):=ht
     obtain ⟨sx,cx,r0,r1,r2,hin⟩:=hc
     obtain ⟨pc,rg,st⟩:=t
     simp only [CD.rec3] at r0 r1 r2 hin hlen
     have HIN:Hid (IntsR wr lo hi sx rg):=hin
     clear ht hin
     have b0:(0:Int)≤(k:Int):=by omega
     have b1:(k:Int) < (d.chs.length:Int):=by omega
     have l3:g < wr.heap.size:=by omega
     go_wp2
     go_region_law (first | (refine step_chan (by rfl) _ _ (by rfl) w5 pc rg (.slice s5 rg.length c5) st (w1.heap.size+1) v2 L2 (by rfl) (HO2.out.keep (fun k hk hk'=>hfar k hk')) (ownLow' ho5 (by omega)) (by rfl) (by have:=HL2.out;omega) (by omega) rfl (fun i z k hz hk hk'=>by have h1:=(World.ownsRow.lt (HO2.out.inn i z hz) _ hk').2;have h2:=(World.ownsRow.lt ho5 _ hk).1;omega) ?_;intro g6 cap6 w6 hp6;have hG6:w6.heap[w1.heap.size]? =w5.heap[w1.heap.size]? :=hp6.far w1.heap.size (by omega) (fun e=>by have:=(World.ownsRow.lt HO2.out.row _ e).1;omega);have hz6:w5.heap.size≤w6.heap.size:=hp6.low.size;have x6:=x5.keep hG6 hz6;have d2:=x6.c1;have d3:=x6.f) | (refine stepC 53 #[.agg #[.int .i64 pc,.slice sx rg.length cx,.bool st]] (by rfl) _ _ (by rfl) (by simp [go_sem]) entspec ?_;refine (l3Copy_any pc sx rg cx st wr.drew (rowI_of (HIN.out.keep (Keep.of_below (Below.drew (Below.refl wr.heap.size wr)) (by omega))) (by show _≤wr.drew.heap.size;have:wr.drew.heap.size=wr.heap.size:=(by simp);omega)) (by omega)).mono ?_;rintro e w5 ⟨u5,rfl,ho5',hb5',hz5'⟩;have hY:wr.drew.heap.size=wr.heap.size:=(by simp);have ho5:=ho5';have hb5:=hb5';have hz5:=hz5';rw [hY] at ho5 hb5 hz5;obtain ⟨s5,c5,rfl⟩:=ho5.sl;have hfar:∀ k,k < wr.heap.size→w5.heap[k]? =wr.heap[k]? :=(fun k hk=>(hb5.block k (by omega)).trans ((Below.drew (Below.refl wr.heap.size wr)).block k hk));have x5:=HX.out.keep (hfar w1.heap.size l1) (by omega);have d0:=x5.c1;have d1:=x5.f;have l5:w1.heap.size < w5.heap.size:=(by omega);refine ⟨_,rfl,?_⟩))
     all_goals
      have P6:=(show Hid _ from hp6)
      have X6:=(show Hid _ from x6)
      have F5:=(show Hid _ from hfar)
      have O5:=(show Hid _ from ho5)
      have B5:=(show Hid _ from hb5)
      have S5:=(show Hid _ from hz5)
      clear hp6 x6 hfar ho5 hb5 hz5 ho5' hb5' hz5' x5 hG6 d0 d1 hY
      go_wp2
      go_roundw
      case rel=>
       obtain ⟨p1,p2,p3,p4⟩:=P6.out
       have hzz:=S5.out
       have e5:∀ k,k < wr.heap.size→v2.ownBlock≠some k→w6.heap[k]? =wr.heap[k]? :=fun k hk hne=>(p2 k (by omega) hne).trans (F5.out k hk)
       refine ⟨k+1,_,L2++[(⟨.int .i64 pc,rg,.bool st⟩,.slice s5 rg.length c5)],by omega,by go_num,X6.out.set1 _,?_,p1.keep (fun k hk hk'=>Below.heap_setCell _ _ _ k (by show k≠w1.heap.size;omega)),?_,?_,?_,by simp;omega⟩
       ·refine (HO.out.keepB (w':=w6) ?_ ?_).keep (fun k hk hk'=>Below.heap_setCell _ _ _ k (by show k≠w1.heap.size;omega))
        ·intro k hk
         exact e5 k (World.ownsRow.lt HO.out.row _ hk).2 (ownType' HO.out.row HO2.out.row (by decide) hk)
        ·intro i x hx k hk
         exact e5 k (World.ownsRow.lt (HO.out.inn i x hx) _ hk).2 (ownType' (HO.out.inn i x hx) HO2.out.row (by decide) hk)
       ·intro i j x y kk hx hy hxk
        by_cases hj:j < L2.length
        ·rw [List.getElem?_append_left hj] at hy
         exact HSP.out i j x y kk hx hy hxk
        ·rw [List.getElem?_append_right (by omega)] at hy
         have hj0:j - L2.length=0:=by have:=(List.getElem?_eq_some_iff.1 hy).1;simp at this;omega
         rw [hj0] at hy
         simp at hy
         rw [← hy]
         intro hyk
         have h1:=(World.ownsRow.lt (HO.out.inn i x hx) _ hxk).2
         have h2:=(World.ownsRow.lt O5.out _ hyk).1
         omega
       ·rw [List.map_append,HM2.out,List.take_add_one,HT.out,List.map_append];rfl
       ·exact (HB.out.trans (((Below.drew (Below.refl wr.heap.size wr)).mono (by omega)).trans ((B5.out.mono (by omega)).trans (p3.mono (by omega))))).setCell (p:=⟨w1.heap.size,1,none⟩) (Nat.le_refl _) _
      case measure=>simp [intOf];omega
    ·have hke:k=d.chs.length:=by omega
     subst hke
     clear hlt hk
     have r1:=R1.out.below HB.out (by omega)
     have y0:=r1.c0
     have y1:=r1.c1
     have y2:=r1.c2
     have y3:=r1.f
     have RR:Hid (BoF (w.heap.size+1) wr (.slice none 0 0) (.slice none 0 0) (.slice none 0 0)):=r1
     clear r1
     obtain ⟨t1,e1,hv1⟩:=ownSl HO.out.row
     obtain ⟨t2,e2,hv2⟩:=ownSl HO2.out.row
     subst hv1
     subst hv2
     go_wp2
     have W3:=((RR.out.set0 (.slice t1 L1.length e1)).set1 (.slice t2 L2.length e2)).set2 (.slice s4 d.tr.length c4)
     have far:∀ k,w.heap.size+2≤k→(((wr.setCell ⟨w.heap.size+1,0,none⟩ (.slice t1 L1.length e1)).setCell ⟨w.heap.size+1,1,none⟩ (.slice t2 L2.length e2)).setCell ⟨w.heap.size+1,2,none⟩ (.slice s4 d.tr.length c4)).heap[k]? =wr.heap[k]? :=fun k hk=>by rw [Below.heap_setCell _ _ _ k (by show k≠w.heap.size+1;omega),Below.heap_setCell _ _ _ k (by show k≠w.heap.size+1;omega),Below.heap_setCell _ _ _ k (by show k≠w.heap.size+1;omega)]
     refine bodyPost_ret (v:=.agg #[.slice t1 L1.length e1,.slice t2 L2.length e2,.slice s4 d.tr.length c4]) (by simp [results,Tryz.results30,go_sem,W3.c0,W3.c1,W3.c2]) rfl ⟨_,_,_,L1,L2,rfl,⟨HM0.out,?_,?_,?_,?_,HSP.out⟩,?_⟩
     ·have h:=HM2.out;rw [List.take_length] at h;exact h
     ·exact (HO.out.keep (fun k hk _=>far k (by omega))).low (by omega)
     ·exact (HO2.out.keep (fun k hk _=>far k (by omega))).low (by omega)
     ·refine ownLow' (ownKeep' HO3.out (fun k hk=>?_)) (by omega)
      have h1:=World.ownsRow.lt HO3.out _ hk
      exact (far k h1.1).trans (HB.out.block k h1.2)
     ·exact (((KW.out.trans (HB.out.mono (by omega))).setCell (p:=⟨w.heap.size+1,0,none⟩) (by show w.heap.size≤w.heap.size+1;omega) _).setCell (p:=⟨w.heap.size+1,1,none⟩) (by show w.heap.size≤w.heap.size+1;omega) _).setCell (p:=⟨w.heap.size+1,2,none⟩) (by show w.heap.size≤w.heap.size+1;omega) _
end Go.Proofs.YtknffngbdakblaaGreat
