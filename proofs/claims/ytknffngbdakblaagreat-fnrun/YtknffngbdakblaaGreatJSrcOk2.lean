/- SourceOk of the program, whole. Conditions: lists of at most 1048576. -/
import Derived.Test.YtknffngbdakblaaGreatJG00
import Derived.Test.YtknffngbdakblaaGreatJLeaves
import Derived.Test.YtknffngbdakblaaGreatJG06
namespace Go.Proofs.YtknffngbdakblaaGreat
set_option linter.unusedSimpArgs false
set_option linter.unusedVariables false
set_option maxRecDepth 100000
open Go.RowKit
set_option maxRecDepth 100000 in
set_option maxHeartbeats 4000000 in
theorem chansOk_any (s s' : Option Addr) (c c' lo hi lo' hi' : Nat) (l : List CD) (bs : List Int) (w : World) (h : RecsR w lo hi s (l.map CD.rec3)) (h' : IntsR w lo' hi' s' bs) (hB : hi ≤ w.heap.size) (hB' : hi' ≤ w.heap.size) (hl : l.length ≤ 1048576) (hls : ∀ (i : Nat) (t : CD), l[i]? = some t → t.list.length ≤ 1048576) (hm : bs.length ≤ 1048576) :
  Calls Tryz.prog 47 #[.slice s l.length c,.slice s' bs.length c'] w fun e w'=>e=.returned (.bool (chsB l bs))∧Below w.heap.size w w':=by
 have H1:Hid (RecsR w lo hi s (l.map CD.rec3)):=h
 have H2:Hid (IntsR w lo' hi' s' bs):=h'
 have Q1:Hid (∀ (i:Nat) (t:CD),l[i]? =some t→t.list.length≤1048576):=hls
 clear h h' hls
 by_cases hn:l.length=bs.length
 ·have hne:((l.length:Int) !=(bs.length:Int))=false:=by simp;omega
  have E:Hid (chsB l bs=allB l (fun i t=>chB t (bs.getD i 0))):=by show _=_;unfold chsB;rw [decide_eq_true hn];rfl
  have HN:Hid (l.length=bs.length):=hn
  clear hn
  go_enter Tryz.func47,Tryz.ntmps47
  go_wp2
  go_loopw [14] (fun i wr=>∃ k:Nat,k≤l.length∧i=.int .i64 k∧Below w.heap.size w wr∧(∀ (i:Nat) (t:CD),i < k→l[i]? =some t→chB t (bs.getD i 0)=true)) (fun i _=>l.length - (intOf i).toNat)
  case atStart=>exact ⟨0,Nat.zero_le _,rfl,Below.refl _ _,fun i t hi=>absurd hi (Nat.not_lt_zero _)⟩
  case round=>
   obtain ⟨k,hk,rfl,hb,hd⟩:=hrel
   have HB:Hid (Below w.heap.size w wr):=hb
   have HD:Hid (∀ (i:Nat) (t:CD),i < k→l[i]? =some t→chB t (bs.getD i 0)=true):=hd
   have hsz:=hb.size
   clear hb hd
   by_cases hlt:k < l.length
   ·have hlt':k < bs.length:=by have:=HN.out;omega
    obtain ⟨t,ht⟩:∃ t,l[k]? =some t:=⟨_,List.getElem?_eq_getElem hlt⟩
    have hm:(l.map CD.rec3)[k]? =some t.rec3:=by rw [List.getElem?_map,ht];rfl
    obtain ⟨g,off,hs,hg,hc⟩:∃ g off,s=some ⟨g,off,none⟩∧g < w.heap.size∧RecR wr lo hi g (off+k * 3) t.rec3:=by
     rcases H1.out with h | ⟨g,off,a,b,d,e⟩
     ·rw [h] at hm;simp at hm
     ·exact ⟨g,off,a,by omega,(e k _ hm).keep (Keep.of_below HB.out hB) (fun j=>HB.out.cell (p:=⟨g,j,none⟩) (by show g < _;omega))⟩
    obtain ⟨g',off',hs',hg',f3⟩:∃ g off,s'=some ⟨g,off,none⟩∧g < w.heap.size∧wr.cell? ⟨g,off+k,none⟩=some (.int .i64 (bs.getD k 0)):=by
     rcases H2.out with h | ⟨g,off,a,b,d,e⟩
     ·rw [h] at hlt';simp at hlt'
     ·exact ⟨g,off,a,by omega,(HB.out.cell (p:=⟨g,off+k,none⟩) (by show g < _;omega)).trans (e k hlt')⟩
    subst hs
    subst hs'
    have hlen:=Q1.out k t ht
    obtain ⟨s1,c1,f0,f1,f2,-⟩:=hc
    have HT:Hid (l[k]? =some t):=ht
    obtain ⟨pc,rg,st⟩:=t
    simp only [CD.rec3] at f0 f1 f2 hlen
    have hgw:g < wr.heap.size:=by omega
    have hgw':g' < wr.heap.size:=by omega
    obtain ⟨n,hx⟩:∃ n,bs.getD k 0=n:=⟨_,rfl⟩
    rw [hx] at f3
    have HX:Hid (bs.getD k 0=n):=hx
    clear hx ht hm
    have b0:(0:Int)≤(k:Int):=by omega
    have b1:(k:Int) < (l.length:Int):=by omega
    have b2:(k:Int) < (bs.length:Int):=by omega
    obtain ⟨bv,hv⟩:∃ b,(Plain.inB pc 1 4&&decide ((rg.length:Int)≤pc))=b:=⟨_,rfl⟩
    have HV:Hid ((Plain.inB pc 1 4&&decide ((rg.length:Int)≤pc))=bv):=hv
    clear hv
    go_wp2_with fail
    obtain ⟨W,hW⟩:∃ W,wr.alloc (.cells #[.int .i64 pc,.slice s1 rg.length c1,.bool st] 65)=W:=⟨_,rfl⟩
    have kW:Below wr.heap.size wr W:=by rw [← hW];exact (Below.refl _ _).alloc (Nat.le_refl _) _
    have x0:W.cell? ⟨wr.heap.size,0,none⟩=some (.int .i64 pc):=by rw [← hW];simp [go_sem]
    have x1:W.cell? ⟨wr.heap.size,1,none⟩=some (.slice s1 rg.length c1):=by rw [← hW];simp [go_sem]
    have x2:W.cell? ⟨wr.heap.size,2,none⟩=some (.bool st):=by rw [← hW];simp [go_sem]
    have zW:wr.heap.size < W.heap.size:=by rw [← hW];simp
    have zG:g' < W.heap.size:=by omega
    have f3':=(kW.cell (p:=⟨g',off'+k,none⟩) hgw').trans f3
    have KW:Hid (Below wr.heap.size wr W):=kW
    rw [hW]
    clear hW kW f0 f1 f2 f3
    by_cases hpn:pc=n
    ·have hpb:(pc !=n)=false:=by simp [hpn]
     have HPN:Hid (pc=n):=hpn
     clear hpn
     cases bv
     ·have F:Hid (chsB l bs=false):=by show _=_;rw [E.out];exact all_no HT.out (by unfold chB;simp only;rw [HV.out];rfl)
      first | go_region_with (go_at_call 64;refine (chanOk_any pc s1 rg.length c1 st _ hlen).mono ?_;rintro e w1 ⟨rfl,hb1⟩;rw [HV.out];have y0:=(hb1.cell (p:=⟨wr.heap.size,0,none⟩) zW).trans x0;have y3:=(hb1.cell (p:=⟨g',off'+k,none⟩) zG).trans f3';have zz:=Nat.lt_of_lt_of_le zW hb1.size;have zz':=Nat.lt_of_lt_of_le zG hb1.size) | fail
      all_goals
       have HB1:Hid (Below wr.heap.size wr w1):=KW.out.trans (Below.mono (show Below W.heap.size W w1 from ⟨hb1.os,hb1.tape,hb1.output,hb1.size,hb1.block⟩) (by omega))
       clear hb1 y0 y3 zz zz'
       go_wp2
       go_ret
       exact ⟨by rw [F.out];rfl,HB.out.trans (HB1.out.mono hsz)⟩
     ·first | go_region_with (go_at_call 64;refine (chanOk_any pc s1 rg.length c1 st _ hlen).mono ?_;rintro e w1 ⟨rfl,hb1⟩;rw [HV.out];have y0:=(hb1.cell (p:=⟨wr.heap.size,0,none⟩) zW).trans x0;have y3:=(hb1.cell (p:=⟨g',off'+k,none⟩) zG).trans f3';have zz:=Nat.lt_of_lt_of_le zW hb1.size;have zz':=Nat.lt_of_lt_of_le zG hb1.size) | fail
      all_goals
       have HB1:Hid (Below wr.heap.size wr w1):=KW.out.trans (Below.mono (show Below W.heap.size W w1 from ⟨hb1.os,hb1.tape,hb1.output,hb1.size,hb1.block⟩) (by omega))
       clear hb1 y0 y3 zz zz'
       go_wp2
       go_roundw
       case rel=>
        refine ⟨k+1,by omega,by go_num,HB.out.trans (HB1.out.mono hsz),fun i t hi ht=>?_⟩
        by_cases e:i=k
        ·subst e
         rw [HT.out] at ht
         injection ht with ht
         subst ht
         unfold chB
         simp only
         rw [HX.out,HV.out,HPN.out]
         simp
        ·exact HD.out i t (by omega) ht
       case measure=>simp [intOf];omega
    ·have hpb:(pc !=n)=true:=by simp [hpn]
     have F:Hid (chsB l bs=false):=by show _=_;rw [E.out];exact all_no HT.out (by unfold chB;simp only;rw [HX.out,decide_eq_false hpn];simp)
     clear hpn
     cases bv
     ·first | go_region_with (go_at_call 64;refine (chanOk_any pc s1 rg.length c1 st _ hlen).mono ?_;rintro e w1 ⟨rfl,hb1⟩;rw [HV.out];have y0:=(hb1.cell (p:=⟨wr.heap.size,0,none⟩) zW).trans x0;have y3:=(hb1.cell (p:=⟨g',off'+k,none⟩) zG).trans f3';have zz:=Nat.lt_of_lt_of_le zW hb1.size;have zz':=Nat.lt_of_lt_of_le zG hb1.size) | fail
      all_goals
       have HB1:Hid (Below wr.heap.size wr w1):=KW.out.trans (Below.mono (show Below W.heap.size W w1 from ⟨hb1.os,hb1.tape,hb1.output,hb1.size,hb1.block⟩) (by omega))
       clear hb1 y0 y3 zz zz'
       go_wp2
       go_ret
       exact ⟨by rw [F.out];rfl,HB.out.trans (HB1.out.mono hsz)⟩
     ·first | go_region_with (go_at_call 64;refine (chanOk_any pc s1 rg.length c1 st _ hlen).mono ?_;rintro e w1 ⟨rfl,hb1⟩;rw [HV.out];have y0:=(hb1.cell (p:=⟨wr.heap.size,0,none⟩) zW).trans x0;have y3:=(hb1.cell (p:=⟨g',off'+k,none⟩) zG).trans f3';have zz:=Nat.lt_of_lt_of_le zW hb1.size;have zz':=Nat.lt_of_lt_of_le zG hb1.size) | fail
      all_goals
       have HB1:Hid (Below wr.heap.size wr w1):=KW.out.trans (Below.mono (show Below W.heap.size W w1 from ⟨hb1.os,hb1.tape,hb1.output,hb1.size,hb1.block⟩) (by omega))
       clear hb1 y0 y3 zz zz'
       go_wp2
       go_ret
       exact ⟨by rw [F.out];rfl,HB.out.trans (HB1.out.mono hsz)⟩
   ·go_wp2
    go_ret
    exact ⟨by rw [E.out,all_yes (fun i t ht=>HD.out i t (by have:=(List.getElem?_eq_some_iff.1 ht).1;omega) ht)];rfl,HB.out⟩
 ·have hne:((l.length:Int) !=(bs.length:Int))=true:=by simp;omega
  have E:Hid (chsB l bs=false):=by show _=_;unfold chsB;rw [decide_eq_false hn];rfl
  clear hn
  go_enter Tryz.func47,Tryz.ntmps47
  go_wp2
  go_ret
  exact ⟨by rw [E.out];rfl,Below.refl _ _⟩
set_option maxRecDepth 100000 in
set_option maxHeartbeats 2000000 in
theorem traceOk_any (s : Option Addr) (c lo hi n : Nat) (l : List ND) (w : World) (h : NtsR w lo hi s l) (hB : hi ≤ w.heap.size) (hl : l.length ≤ 1048576) (hn : n ≤ 1048576) :
  Calls Tryz.prog 48 #[.slice s l.length c,.int .i64 n] w fun e w'=>e=.returned (.bool (trB l n))∧Below w.heap.size w w':=by
 have H1:Hid (NtsR w lo hi s l):=h
 clear h
 by_cases hn:l.length≤4000
 ·have hne:¬ (4000:Int) < (l.length:Int):=by omega
  have E:Hid (trB l n=allB l (fun _ t=>Plain.oneB t.who n)):=by show _=_;unfold trB;rw [decide_eq_true hn];rfl
  go_enter Tryz.func48,Tryz.ntmps48
  go_wp2
  go_loopw [12] (fun i wr=>∃ k:Nat,k≤l.length∧i=.int .i64 k∧Below w.heap.size w wr∧(∀ (i:Nat) (t:ND),i < k→l[i]? =some t→Plain.oneB t.who n=true)) (fun i _=>l.length - (intOf i).toNat)
  case atStart=>exact ⟨0,Nat.zero_le _,rfl,Below.refl _ _,fun i t hi=>absurd hi (Nat.not_lt_zero _)⟩
  case round=>
   obtain ⟨k,hk,rfl,hb,hd⟩:=hrel
   have HB:Hid (Below w.heap.size w wr):=hb
   have HD:Hid (∀ (i:Nat) (t:ND),i < k→l[i]? =some t→Plain.oneB t.who n=true):=hd
   have hsz:=hb.size
   clear hb hd
   by_cases hlt:k < l.length
   ·obtain ⟨t,ht⟩:∃ t,l[k]? =some t:=⟨_,List.getElem?_eq_getElem hlt⟩
    obtain ⟨g,off,hs,hg,f0,f1⟩:∃ g off,s=some ⟨g,off,none⟩∧g < w.heap.size∧NtR wr g (off+k * 2) t:=by
     rcases H1.out with h | ⟨g,off,a,b,d,e⟩
     ·rw [h] at hlt;simp at hlt
     ·exact ⟨g,off,a,by omega,(HB.out.cell (p:=⟨g,_,none⟩) (by show g < _;omega)).trans (e k t ht).1,(HB.out.cell (p:=⟨g,_,none⟩) (by show g < _;omega)).trans (e k t ht).2⟩
    subst hs
    have HT:Hid (l[k]? =some t):=ht
    obtain ⟨ta,tb⟩:=t
    simp only at f0 f1
    clear ht
    have b0:(0:Int)≤(k:Int):=by omega
    have b1:(k:Int) < (l.length:Int):=by omega
    cases hv:Plain.oneB ta n
    ·have F:Hid (trB l n=false):=by show _=_;rw [E.out];exact all_no HT.out hv
     have HV:Hid (Plain.oneB ta n=false):=hv
     clear hv
     go_wp2_with (go_at_call 49;refine (isOneOf_any _ _ _).mono ?_;rintro e w' ⟨rfl,hw⟩;have hw':=hw.symm;clear hw;subst hw';rw [HV.out])
     go_ret
     exact ⟨by rw [F.out];rfl,HB.out.trans (((Below.refl _ _).alloc (Nat.le_refl _) _).mono hsz)⟩
    ·have HV:Hid (Plain.oneB ta n=true):=hv
     clear hv
     go_wp2_with (go_at_call 49;refine (isOneOf_any _ _ _).mono ?_;rintro e w' ⟨rfl,hw⟩;have hw':=hw.symm;clear hw;subst hw';rw [HV.out])
     go_roundw
     case rel=>
      refine ⟨k+1,by omega,by go_num,HB.out.trans (((Below.refl _ _).alloc (Nat.le_refl _) _).mono hsz),fun i t hi ht=>?_⟩
      by_cases e:i=k
      ·subst e
       rw [HT.out] at ht
       injection ht with ht
       subst ht
       exact HV.out
      ·exact HD.out i t (by omega) ht
     case measure=>simp [intOf];omega
   ·go_wp2
    go_ret
    exact ⟨by rw [E.out,all_yes (fun i t ht=>HD.out i t (by have:=(List.getElem?_eq_some_iff.1 ht).1;omega) ht)];rfl,HB.out⟩
 ·have hne:(4000:Int) < (l.length:Int):=by omega
  have E:Hid (trB l n=false):=by show _=_;unfold trB;rw [decide_eq_false hn];rfl
  clear hn
  go_enter Tryz.func48,Tryz.ntmps48
  go_wp2
  go_ret
  exact ⟨by rw [E.out];rfl,Below.refl _ _⟩
end Go.Proofs.YtknffngbdakblaaGreat
