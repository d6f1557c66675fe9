/- SourceOk of the specification. Conditions: lists of at most 1048576. What a source that is right gives a step: its thread, its place, its registers, its channel. No condition. -/
import Derived.Test.YtknffngbdakblaaGreatJG00
import Derived.Test.YtknffngbdakblaaGreatJSpecIns
import Derived.Test.YtknffngbdakblaaGreatJProgOk2
import Derived.Test.YtknffngbdakblaaGreatJProgOk
import Derived.Test.YtknffngbdakblaaGreatJG01
import Derived.Test.YtknffngbdakblaaGreatJG06
import Derived.Test.YtknffngbdakblaaGreatJG03
import Derived.Test.YtknffngbdakblaaGreatJBody
namespace Go.Proofs.YtknffngbdakblaaGreat
section
set_option linter.unusedSimpArgs false
set_option linter.unusedVariables false
set_option maxRecDepth 100000
open Go.RowKit
theorem l1In_is (x lo hi:Int) (b:Bool) (w:World) (h:Plain.inB x lo hi=b):Calls Tryz.prog 34 #[.int .i64 x,.int .i64 lo,.int .i64 hi] w fun e w'=>e=.returned (.bool b)∧w'=w:=by
 rw [← h]
 exact l1In_any x lo hi w
theorem fiveC {w W:World} {a b c d e:Value} {T T':TypeId} (hW:(w.alloc (.cells #[a,b] T)).alloc (.cells #[c,d,e] T')=W):Below w.heap.size w W∧w.heap.size < W.heap.size∧w.heap.size+1 < W.heap.size∧(W.cell? ⟨w.heap.size,0,none⟩=some a∧W.cell? ⟨w.heap.size,1,none⟩=some b)∧W.cell? ⟨w.heap.size+1,0,none⟩=some c∧W.cell? ⟨w.heap.size+1,1,none⟩=some d∧W.cell? ⟨w.heap.size+1,2,none⟩=some e:=by
 subst hW
 exact ⟨((Below.refl _ _).alloc (Nat.le_refl _) _).alloc (by simp) _,by simp;omega,by simp,⟨by simp [go_sem],by simp [go_sem]⟩,by simp [go_sem],by simp [go_sem],by simp [go_sem]⟩
set_option maxRecDepth 100000 in
set_option maxHeartbeats 8000000 in
theorem specSource_any (p1 p2 s1 s2 s3 : Option Addr) (a1 a2 c1 c2 c3 lo hi lo' hi' : Nat) (p : PD) (d : SD) (w : World) (h : ProgR w lo hi p1 p2 p) (h' : SrcR w lo' hi' s1 s2 s3 d) (hB : hi ≤ w.heap.size) (hB' : hi' ≤ w.heap.size) (hf : Fits p) (hf' : SFits d) :
  Calls Tryz.prog 13 #[.agg #[.slice p1 p.caps.length a1,.slice p2 p.bods.length a2],.agg #[.slice s1 d.ths.length c1,.slice s2 d.chs.length c2,.slice s3 d.tr.length c3]] w fun e w'=>e=.returned (.bool (srcB p d))∧Below w.heap.size w w':=by
 have H:Hid (ProgR w lo hi p1 p2 p):=h
 have H':Hid (SrcR w lo' hi' s1 s2 s3 d):=h'
 have FP:Hid (Fits p):=hf
 have FS:Hid (SFits d):=hf'
 have n1:=hf.2.1
 have n2:=hf.1
 have n3:=hf'.2.2
 have n4:=hf'.1.1
 have n5:=hf'.2.1.1
 clear h h' hf hf'
 go_enter Tryz.func13,Tryz.ntmps13
 go_wp2_with fail
 obtain ⟨W,hW⟩:∃ W,(w.alloc (.cells #[.slice p1 p.caps.length a1,.slice p2 p.bods.length a2] 27)).alloc (.cells #[.slice s1 d.ths.length c1,.slice s2 d.chs.length c2,.slice s3 d.tr.length c3] 32)=W:=⟨_,rfl⟩
 obtain ⟨ka,z0,z1,⟨x0,x1⟩,y0,y1,y2⟩:=fiveC hW
 rw [hW]
 clear hW
 have K:Hid (Below w.heap.size w W):=ka
 clear ka
 refine (specProg_any p1 p2 a1 a2 lo hi p W (H.out.keep' (Keep.of_below K.out hB)) (by omega) FP.out).mono ?_
 rintro e w1 ⟨rfl,hb1⟩
 have K1:Hid (Below w.heap.size w w1):=K.out.trans (hb1.mono (by omega))
 have x0':=(hb1.cell (p:=⟨w.heap.size,0,none⟩) z0).trans x0
 have x1':=(hb1.cell (p:=⟨w.heap.size,1,none⟩) z0).trans x1
 have y0':=(hb1.cell (p:=⟨w.heap.size+1,0,none⟩) z1).trans y0
 have y1':=(hb1.cell (p:=⟨w.heap.size+1,1,none⟩) z1).trans y1
 have y2':=(hb1.cell (p:=⟨w.heap.size+1,2,none⟩) z1).trans y2
 have zs:=hb1.size
 have z0':w.heap.size < w1.heap.size:=by omega
 have z1':w.heap.size+1 < w1.heap.size:=by omega
 clear x0 x1 y0 y1 y2 hb1 K z0 z1 zs
 cases hp:progB p
 ·have F:Hid (srcB p d=false):=by show _=_;unfold srcB;rw [hp];rfl
  clear hp
  go_wp2
  go_ret
  exact ⟨by rw [F.out];rfl,K1.out⟩
 have HP:Hid (progB p=true):=hp
 clear hp
 by_cases e1:d.ths.length=p.bods.length
 rotate_left
 ·have b1:((d.ths.length:Int) !=(p.bods.length:Int))=true:=by simp;omega
  have F:Hid (srcB p d=false):=by show _=_;unfold srcB thsB;rw [decide_eq_false e1];simp
  clear e1
  go_wp2
  go_ret
  exact ⟨by rw [F.out];rfl,K1.out⟩
 have b1:((d.ths.length:Int) !=(p.bods.length:Int))=false:=by simp;omega
 have E1:Hid (d.ths.length=p.bods.length):=e1
 clear e1
 by_cases e2:d.chs.length=p.caps.length
 rotate_left
 ·have b2:((d.chs.length:Int) !=(p.caps.length:Int))=true:=by simp;omega
  have F:Hid (srcB p d=false):=by show _=_;unfold srcB chsB;rw [decide_eq_false e2];simp
  clear e2
  go_wp2
  go_ret
  exact ⟨by rw [F.out];rfl,K1.out⟩
 have b2:((d.chs.length:Int) !=(p.caps.length:Int))=false:=by simp;omega
 have E2:Hid (d.chs.length=p.caps.length):=e2
 clear e2
 by_cases e3:d.tr.length≤4000
 rotate_left
 ·have b3:(4000:Int) < (d.tr.length:Int):=by omega
  have F:Hid (srcB p d=false):=by show _=_;unfold srcB trB;rw [decide_eq_false e3];simp
  clear e3
  go_wp2
  go_ret
  exact ⟨by rw [F.out];rfl,K1.out⟩
 have b3:¬ (4000:Int) < (d.tr.length:Int):=by omega
 have F0:Hid (srcB p d=(allB d.ths (fun i t=>thB t (p.bods.getD i []).length)&&(allB d.chs (fun i t=>chB t (p.caps.getD i 0))&&allB d.tr (fun _ t=>Plain.oneB t.who p.bods.length)))):=by
  show _=_
  unfold srcB thsB chsB trB
  rw [HP.out,decide_eq_true E1.out,decide_eq_true E2.out,decide_eq_true e3]
  simp
 clear e3
 go_wp2
 go_loopw [5] (fun i wr=>∃ k:Nat,k≤d.ths.length∧i=.int .i64 k∧Below w1.heap.size w1 wr∧(∀ (i:Nat) (t:TD),i < k→d.ths[i]? =some t→thB t (p.bods.getD i []).length=true)) (fun i _=>d.ths.length - (intOf i).toNat)
 case atStart=>exact ⟨0,Nat.zero_le _,rfl,Below.refl _ _,fun i t hi=>absurd hi (Nat.not_lt_zero _)⟩
 case round=>
  obtain ⟨k,hk,rfl,hb,hd⟩:=hrel
  have HB:Hid (Below w1.heap.size w1 wr):=hb
  have HD:Hid (∀ (i:Nat) (t:TD),i < k→d.ths[i]? =some t→thB t (p.bods.getD i []).length=true):=hd
  have hsz:=hb.size
  have x0:=(hb.cell (p:=⟨w.heap.size,0,none⟩) z0').trans x0'
  have x1:=(hb.cell (p:=⟨w.heap.size,1,none⟩) z0').trans x1'
  have y0:=(hb.cell (p:=⟨w.heap.size+1,0,none⟩) z1').trans y0'
  have y1:=(hb.cell (p:=⟨w.heap.size+1,1,none⟩) z1').trans y1'
  have y2:=(hb.cell (p:=⟨w.heap.size+1,2,none⟩) z1').trans y2'
  have z0:w.heap.size < wr.heap.size:=by omega
  have z1:w.heap.size+1 < wr.heap.size:=by omega
  have K2:Hid (Below w.heap.size w wr):=K1.out.trans (hb.mono (by omega))
  clear hb hd
  by_cases hlt:k < d.ths.length
  ·have hlt':k < p.bods.length:=by have:=E1.out;omega
   obtain ⟨t,ht⟩:∃ t,d.ths[k]? =some t:=⟨_,List.getElem?_eq_getElem hlt⟩
   have hm:(d.ths.map TD.rec3)[k]? =some t.rec3:=by rw [List.getElem?_map,ht];rfl
   obtain ⟨g,off,hs,hg,hc⟩:∃ g off,s1=some ⟨g,off,none⟩∧g < w.heap.size∧RecR wr lo' hi' g (off+k * 3) t.rec3:=by
    rcases H'.out.1 with h | ⟨g,off,a,b,d,e⟩
    ·rw [h] at hm;simp at hm
    ·exact ⟨g,off,a,by omega,(e k _ hm).keep (Keep.of_below K2.out hB') (fun j=>K2.out.cell (p:=⟨g,j,none⟩) (by show g < _;omega))⟩
   obtain ⟨g',off',hs',hg',hc'⟩:∃ g off,p2=some ⟨g,off,none⟩∧g < w.heap.size∧BodR wr lo hi g (off+k) (p.bods.getD k []):=by
    rcases H.out.2 with h | ⟨g,off,a,b,d,e⟩
    ·rw [h] at hlt';simp at hlt'
    ·exact ⟨g,off,a,by omega,(e k hlt').keep (Keep.of_below K2.out hB) (K2.out.cell (p:=⟨g,off+k,none⟩) (by show g < _;omega))⟩
   subst hs
   subst hs'
   have hlen:=FS.out.1.2 k t ht
   have hlen':=FP.out.2.2 k hlt'
   obtain ⟨q1,r1,f0,f1,f2,-⟩:=hc
   obtain ⟨q2,r2,f3,-⟩:=hc'
   have HT:Hid (d.ths[k]? =some t):=ht
   obtain ⟨pc,rg,st⟩:=t
   simp only [TD.rec3] at f0 f1 f2 hlen
   have hgw:g < wr.heap.size:=by omega
   have hgw':g' < wr.heap.size:=by omega
   obtain ⟨n,hx⟩:∃ n,(p.bods.getD k []).length=n:=⟨_,rfl⟩
   rw [hx] at f3 hlen'
   have HX:Hid ((p.bods.getD k []).length=n):=hx
   clear hx ht hm
   have b0:(0:Int)≤(k:Int):=by omega
   have c1:(k:Int) < (d.ths.length:Int):=by omega
   have c2:(k:Int) < (p.bods.length:Int):=by omega
   have w1':IntKind.i64.wrap ((n:Int) - 1)=(n:Int) - 1:=by rw [IntKind.wrap_i64];omega
   obtain ⟨bs,hbs⟩:∃ b,Plain.inB st 0 2=b:=⟨_,rfl⟩
   obtain ⟨bp,hbp⟩:∃ b,Plain.inB pc 0 ((n:Int) - 1)=b:=⟨_,rfl⟩
   have HBS:Hid (Plain.inB st 0 2=bs):=hbs
   have HBP:Hid (Plain.inB pc 0 ((n:Int) - 1)=bp):=hbp
   have HTB:Hid (thB ⟨pc,rg,st⟩ n=(decide (rg.length=4)&&(bs&&bp))):=by
    show _=_
    unfold thB
    simp only
    rw [hbs,← hbp]
    congr 2
    unfold Plain.oneB Plain.inB
    exact decide_eq_decide.2 (by omega)
   clear hbs hbp
   go_wp2_with fail
   obtain ⟨W,hW⟩:∃ W,wr.alloc (.cells #[.int .i64 pc,.slice q1 rg.length r1,.int .i64 st] 49)=W:=⟨_,rfl⟩
   have kW:Below wr.heap.size wr W:=by rw [← hW];exact (Below.refl _ _).alloc (Nat.le_refl _) _
   have t0:W.cell? ⟨wr.heap.size,0,none⟩=some (.int .i64 pc):=by rw [← hW];simp [go_sem]
   have t1:W.cell? ⟨wr.heap.size,1,none⟩=some (.slice q1 rg.length r1):=by rw [← hW];simp [go_sem]
   have t2:W.cell? ⟨wr.heap.size,2,none⟩=some (.int .i64 st):=by rw [← hW];simp [go_sem]
   have zW:wr.heap.size < W.heap.size:=by rw [← hW];simp
   have f3':=(kW.cell (p:=⟨g',off'+k,none⟩) hgw').trans f3
   have v1:=(kW.cell (p:=⟨w.heap.size,1,none⟩) z0).trans x1
   have zG:g' < W.heap.size:=by omega
   have zV:w.heap.size < W.heap.size:=by omega
   have KW:Hid (Below wr.heap.size wr W):=kW
   rw [hW]
   clear hW kW f0 f1 f2 f3
   have RF:Hid (∀ bp' bs',bp'=bp→bs'=bs→(decide (rg.length=4)&&(bs'&&bp'))=false→srcB p d=false):=fun bp' bs' e1 e2 h=>by rw [F0.out,all_no HT.out (by rw [HX.out,HTB.out,← e1,← e2,h])];rfl
   by_cases h4:rg.length=4
   rotate_left
   ·have r4:((rg.length:Int) !=4)=true:=by simp;omega
    have F:Hid (srcB p d=false):=RF.out _ _ rfl rfl (by rw [decide_eq_false h4];rfl)
    clear h4
    go_quiet (fail)
    go_wp2
    go_ret
    exact ⟨by rw [F.out];rfl,K2.out.trans ((below_draw KW.out nq).mono (by omega))⟩
   have r4:((rg.length:Int) !=4)=false:=by simp;omega
   have H4:Hid (rg.length=4):=h4
   clear h4
   cases bs
   ·have F:Hid (srcB p d=false):=RF.out _ _ rfl rfl (by simp)
    go_quiet ((go_at_call 34;exact Calls.quiet_of_same (l1In_is _ _ _ false _ HBS.out)))
    go_wp2
    go_ret
    exact ⟨by rw [F.out];rfl,K2.out.trans ((below_draw KW.out nq).mono (by omega))⟩
   cases bp
   ·have F:Hid (srcB p d=false):=RF.out _ _ rfl rfl (by simp)
    go_quiet (first | (go_at_call 34;exact Calls.quiet_of_same (l1In_is _ _ _ true _ HBS.out)) | (go_at_call 34;exact Calls.quiet_of_same (l1In_is _ _ _ false _ HBP.out)))
    go_wp2
    go_ret
    exact ⟨by rw [F.out];rfl,K2.out.trans ((below_draw KW.out nq).mono (by omega))⟩
   ·go_quiet (first | (go_at_call 34;exact Calls.quiet_of_same (l1In_is _ _ _ true _ HBS.out)) | (go_at_call 34;exact Calls.quiet_of_same (l1In_is _ _ _ true _ HBP.out)))
    go_wp2
    go_roundw
    case rel=>
     refine ⟨k+1,by omega,by go_num,HB.out.trans ((below_draw KW.out nq).mono (by omega)),fun i t hi ht=>?_⟩
     by_cases e:i=k
     ·subst e
      rw [HT.out] at ht
      injection ht with ht
      subst ht
      rw [HX.out,HTB.out,decide_eq_true H4.out]
      rfl
     ·exact HD.out i t (by omega) ht
    case measure=>simp [intOf];omega
  ·have A1:Hid (allB d.ths (fun i t=>thB t (p.bods.getD i []).length)=true):=all_yes (fun i t ht=>HD.out i t (by have:=(List.getElem?_eq_some_iff.1 ht).1;omega) ht)
   clear HD
   go_wp2
   go_loopw [7] (fun i wq=>∃ k:Nat,k≤d.chs.length∧i=.int .i64 k∧Below w1.heap.size w1 wq∧(∀ (i:Nat) (t:CD),i < k→d.chs[i]? =some t→chB t (p.caps.getD i 0)=true)) (fun i _=>d.chs.length - (intOf i).toNat)
   case atStart=>exact ⟨0,Nat.zero_le _,rfl,HB.out,fun i t hi=>absurd hi (Nat.not_lt_zero _)⟩
   case round=>
    rename World=>wq
    obtain ⟨k2,hk2,rfl,hb,hd⟩:=hrel
    clear x0 x1 y0 y1 y2 z0 z1 K2 HB hsz
    have HB:Hid (Below w1.heap.size w1 wq):=hb
    have HD:Hid (∀ (i:Nat) (t:CD),i < k2→d.chs[i]? =some t→chB t (p.caps.getD i 0)=true):=hd
    have hsz:=hb.size
    have x0:=(hb.cell (p:=⟨w.heap.size,0,none⟩) z0').trans x0'
    have x1:=(hb.cell (p:=⟨w.heap.size,1,none⟩) z0').trans x1'
    have y0:=(hb.cell (p:=⟨w.heap.size+1,0,none⟩) z1').trans y0'
    have y1:=(hb.cell (p:=⟨w.heap.size+1,1,none⟩) z1').trans y1'
    have y2:=(hb.cell (p:=⟨w.heap.size+1,2,none⟩) z1').trans y2'
    have z0:w.heap.size < wq.heap.size:=by omega
    have z1:w.heap.size+1 < wq.heap.size:=by omega
    have K2:Hid (Below w.heap.size w wq):=K1.out.trans (hb.mono (by omega))
    clear hb hd
    by_cases hlt2:k2 < d.chs.length
    ·have hlt':k2 < p.caps.length:=by have:=E2.out;omega
     obtain ⟨t,ht⟩:∃ t,d.chs[k2]? =some t:=⟨_,List.getElem?_eq_getElem hlt2⟩
     have hm:(d.chs.map CD.rec3)[k2]? =some t.rec3:=by rw [List.getElem?_map,ht];rfl
     obtain ⟨g,off,hs,hg,hc⟩:∃ g off,s2=some ⟨g,off,none⟩∧g < w.heap.size∧RecR wq lo' hi' g (off+k2 * 3) t.rec3:=by
      rcases H'.out.2.1 with h | ⟨g,off,a,b,d,e⟩
      ·rw [h] at hm;simp at hm
      ·exact ⟨g,off,a,by omega,(e k2 _ hm).keep (Keep.of_below K2.out hB') (fun j=>K2.out.cell (p:=⟨g,j,none⟩) (by show g < _;omega))⟩
     obtain ⟨g',off',hs',hg',f3⟩:∃ g off,p1=some ⟨g,off,none⟩∧g < w.heap.size∧wq.cell? ⟨g,off+k2,none⟩=some (.int .i64 (p.caps.getD k2 0)):=by
      rcases H.out.1 with h | ⟨g,off,a,b,d,e⟩
      ·rw [h] at hlt';simp at hlt'
      ·exact ⟨g,off,a,by omega,(K2.out.cell (p:=⟨g,off+k2,none⟩) (by show g < _;omega)).trans (e k2 hlt')⟩
     subst hs
     subst hs'
     have hlen:=FS.out.2.1.2 k2 t ht
     obtain ⟨q1,r1,f0,f1,f2,-⟩:=hc
     have HT:Hid (d.chs[k2]? =some t):=ht
     obtain ⟨pc,rg,st⟩:=t
     simp only [CD.rec3] at f0 f1 f2 hlen
     have hgw:g < wq.heap.size:=by omega
     have hgw':g' < wq.heap.size:=by omega
     obtain ⟨n,hx⟩:∃ n,p.caps.getD k2 0=n:=⟨_,rfl⟩
     rw [hx] at f3
     have HX:Hid (p.caps.getD k2 0=n):=hx
     clear hx ht hm
     have b0:(0:Int)≤(k2:Int):=by omega
     have d1:(k2:Int) < (d.chs.length:Int):=by omega
     have d2:(k2:Int) < (p.caps.length:Int):=by omega
     obtain ⟨bv,hv⟩:∃ b,(Plain.inB pc 1 4&&decide ((rg.length:Int)≤pc))=b:=⟨_,rfl⟩
     have HV:Hid ((Plain.inB pc 1 4&&decide ((rg.length:Int)≤pc))=bv):=hv
     clear hv
     go_wp2_with fail
     cases bv
     ·have F:Hid (srcB p d=false):=by show _=_;rw [F0.out,A1.out,all_no HT.out (by unfold chB;simp only;rw [HV.out];rfl)];rfl
      have hne:=ext_ne wq
      have u0:=Ext.fit x0 z0
      have u1:=Ext.fit y1 z1
      have u2:=Ext.fit f0 hgw
      have u3:=Ext.fit f1 hgw
      have u4:=Ext.fit f2 hgw
      have u5:=Ext.fit f3 hgw'
      refine regionExt wq (by kernel_rfl) (by kernel_rfl) ?_
      repeat (go_big_quiet_step ((rename_i X;go_at_call 35;refine (sChanOk_any pc q1 rg.length r1 st _ hlen).mono ?_;rintro e w3 ⟨rfl,hb3⟩;rw [HV.out];exact ⟨rfl,X.on hb3⟩)))
      refine wpQuiet_nil ?_
      rintro w3 ⟨X3,rfl⟩
      have HB1:Hid (Below wq.heap.size wq X3.w):=X3.b
      clear u0 u1 u2 u3 u4 u5 hne x0 x1 y0 y1 y2 f0 f1 f2 f3
      go_wp2
      go_ret
      exact ⟨by rw [F.out];rfl,K2.out.trans (HB1.out.mono (by omega))⟩
     by_cases hpn:pc=n
     ·have hpb:(pc !=n)=false:=by simp [hpn]
      have HPN:Hid (pc=n):=hpn
      clear hpn
      have hne:=ext_ne wq
      have u0:=Ext.fit x0 z0
      have u1:=Ext.fit y1 z1
      have u2:=Ext.fit f0 hgw
      have u3:=Ext.fit f1 hgw
      have u4:=Ext.fit f2 hgw
      have u5:=Ext.fit f3 hgw'
      refine regionExt wq (by kernel_rfl) (by kernel_rfl) ?_
      repeat (go_big_quiet_step ((rename_i X;go_at_call 35;refine (sChanOk_any pc q1 rg.length r1 st _ hlen).mono ?_;rintro e w3 ⟨rfl,hb3⟩;rw [HV.out];exact ⟨rfl,X.on hb3⟩)))
      refine wpQuiet_nil ?_
      rintro w3 ⟨X3,rfl⟩
      have HB1:Hid (Below wq.heap.size wq X3.w):=X3.b
      clear u0 u1 u2 u3 u4 u5 hne x0 x1 y0 y1 y2 f0 f1 f2 f3
      go_wp2
      go_roundw
      case rel=>
       refine ⟨k2+1,by omega,by go_num,HB.out.trans (HB1.out.mono (by omega)),fun i t hi ht=>?_⟩
       by_cases e:i=k2
       ·subst e
        rw [HT.out] at ht
        injection ht with ht
        subst ht
        unfold chB
        simp only
        rw [HX.out,HV.out,HPN.out]
        simp
       ·exact HD.out i t (by omega) ht
      case measure=>simp [intOf];omega
     ·have hpb:(pc !=n)=true:=by simp [hpn]
      have F:Hid (srcB p d=false):=by show _=_;rw [F0.out,A1.out,all_no HT.out (by unfold chB;simp only;rw [HX.out,decide_eq_false hpn];simp)];rfl
      clear hpn
      have hne:=ext_ne wq
      have u0:=Ext.fit x0 z0
      have u1:=Ext.fit y1 z1
      have u2:=Ext.fit f0 hgw
      have u3:=Ext.fit f1 hgw
      have u4:=Ext.fit f2 hgw
      have u5:=Ext.fit f3 hgw'
      refine regionExt wq (by kernel_rfl) (by kernel_rfl) ?_
      repeat (go_big_quiet_step ((rename_i X;go_at_call 35;refine (sChanOk_any pc q1 rg.length r1 st _ hlen).mono ?_;rintro e w3 ⟨rfl,hb3⟩;rw [HV.out];exact ⟨rfl,X.on hb3⟩)))
      refine wpQuiet_nil ?_
      rintro w3 ⟨X3,rfl⟩
      have HB1:Hid (Below wq.heap.size wq X3.w):=X3.b
      clear u0 u1 u2 u3 u4 u5 hne x0 x1 y0 y1 y2 f0 f1 f2 f3
      go_wp2
      go_ret
      exact ⟨by rw [F.out];rfl,K2.out.trans (HB1.out.mono (by omega))⟩
    ·have A2:Hid (allB d.chs (fun i t=>chB t (p.caps.getD i 0))=true):=all_yes (fun i t ht=>HD.out i t (by have:=(List.getElem?_eq_some_iff.1 ht).1;omega) ht)
     clear HD
     go_wp2
     go_loopw [8] (fun i wz=>∃ k:Nat,k≤d.tr.length∧i=.int .i64 k∧Below w1.heap.size w1 wz∧(∀ (i:Nat) (t:ND),i < k→d.tr[i]? =some t→Plain.oneB t.who p.bods.length=true)) (fun i _=>d.tr.length - (intOf i).toNat)
     case atStart=>exact ⟨0,Nat.zero_le _,rfl,HB.out,fun i t hi=>absurd hi (Nat.not_lt_zero _)⟩
     case round=>
      rename World=>wz
      obtain ⟨k3,hk3,rfl,hb,hd⟩:=hrel
      clear x0 x1 y0 y1 y2 z0 z1 K2 HB hsz
      have HB:Hid (Below w1.heap.size w1 wz):=hb
      have HD:Hid (∀ (i:Nat) (t:ND),i < k3→d.tr[i]? =some t→Plain.oneB t.who p.bods.length=true):=hd
      have hsz:=hb.size
      have y0:=(hb.cell (p:=⟨w.heap.size+1,0,none⟩) z1').trans y0'
      have y2:=(hb.cell (p:=⟨w.heap.size+1,2,none⟩) z1').trans y2'
      have z1:w.heap.size+1 < wz.heap.size:=by omega
      have K2:Hid (Below w.heap.size w wz):=K1.out.trans (hb.mono (by omega))
      clear hb hd
      by_cases hlt3:k3 < d.tr.length
      ·obtain ⟨t,ht⟩:∃ t,d.tr[k3]? =some t:=⟨_,List.getElem?_eq_getElem hlt3⟩
       obtain ⟨g,off,hs,hg,f0,f1⟩:∃ g off,s3=some ⟨g,off,none⟩∧g < w.heap.size∧NtR wz g (off+k3 * 2) t:=by
        rcases H'.out.2.2 with h | ⟨g,off,a,b,d,e⟩
        ·rw [h] at hlt3;simp at hlt3
        ·exact ⟨g,off,a,by omega,(K2.out.cell (p:=⟨g,_,none⟩) (by show g < _;omega)).trans (e k3 t ht).1,(K2.out.cell (p:=⟨g,_,none⟩) (by show g < _;omega)).trans (e k3 t ht).2⟩
       subst hs
       have HT:Hid (d.tr[k3]? =some t):=ht
       obtain ⟨ta,tb⟩:=t
       simp only at f0 f1
       clear ht
       have b0:(0:Int)≤(k3:Int):=by omega
       have d1:(k3:Int) < (d.tr.length:Int):=by omega
       have w1':IntKind.i64.wrap ((d.ths.length:Int) - 1)=(d.ths.length:Int) - 1:=by rw [IntKind.wrap_i64];omega
       have HO:Hid (Plain.oneB ta p.bods.length=Plain.inB ta 0 ((d.ths.length:Int) - 1)):=by
        show _=_
        rw [E1.out]
        unfold Plain.oneB Plain.inB
        exact decide_eq_decide.2 (by omega)
       go_wp2_with fail
       cases hv:Plain.inB ta 0 ((d.ths.length:Int) - 1)
       ·have F:Hid (srcB p d=false):=by show _=_;rw [F0.out,A1.out,A2.out,all_no HT.out (by simp only;rw [HO.out];exact hv)];rfl
        have HV:Hid (Plain.inB ta 0 ((d.ths.length:Int) - 1)=false):=hv
        clear hv
        go_quiet ((go_at_call 34;exact Calls.quiet_of_same (l1In_is _ _ _ false _ HV.out)))
        go_wp2
        go_ret
        exact ⟨by rw [F.out];rfl,below_draw K2.out nq⟩
       ·have HV:Hid (Plain.inB ta 0 ((d.ths.length:Int) - 1)=true):=hv
        clear hv
        go_quiet ((go_at_call 34;exact Calls.quiet_of_same (l1In_is _ _ _ true _ HV.out)))
        go_wp2
        go_roundw
        case rel=>
         refine ⟨k3+1,by omega,by go_num,below_draw HB.out nq,fun i t hi ht=>?_⟩
         by_cases e:i=k3
         ·subst e
          rw [HT.out] at ht
          injection ht with ht
          subst ht
          simp only
          rw [HO.out]
          exact HV.out
         ·exact HD.out i t (by omega) ht
        case measure=>simp [intOf];omega
      ·have F:Hid (srcB p d=true):=by show _=_;rw [F0.out,A1.out,A2.out,all_yes (fun i t ht=>HD.out i t (by have:=(List.getElem?_eq_some_iff.1 ht).1;omega) ht)];rfl
       clear HD
       go_wp2
       go_ret
       exact ⟨by rw [F.out];rfl,K2.out⟩
end
section
set_option linter.unusedSimpArgs false
set_option linter.unusedVariables false
set_option maxRecDepth 100000
open Go.RowKit
/- a source that is right, as a step wants it -/
structure Right (p:PD) (d:SD):Prop where
 pb:p.bods.length≤4
 pc:p.caps.length≤3
 tl:d.ths.length=p.bods.length
 cl:d.chs.length=p.caps.length
 nl:d.tr.length≤4000
 th:∀ (i:Nat) (t:TD),d.ths[i]? =some t→t.regs.length=4∧0≤t.st∧t.st≤2∧0≤t.pc∧t.pc < (bodyOf p i).length
 ch:∀ (i:Nat) (c:CD),d.chs[i]? =some c→okC c.cap c.list.length=true∧c.list.length≤4
 bd:∀ i,i < p.bods.length→(bodyOf p i).length≤24
 ix:∀ i j,i < p.bods.length→j < (bodyOf p i).length→insX ((bodyOf p i).getD j z5) (bodyOf p i).length p.caps.length=true
theorem right_of {p:PD} {d:SD} (h:srcB p d=true):Right p d:=by
 unfold srcB at h
 rw [Bool.and_eq_true,Bool.and_eq_true,Bool.and_eq_true] at h
 obtain ⟨h1,h2,h3,h4⟩:=h
 unfold progB at h1
 rw [Bool.and_eq_true,Bool.and_eq_true,Bool.and_eq_true] at h1
 obtain ⟨p1,p2,p3,p4⟩:=h1
 unfold thsB at h2
 unfold chsB at h3
 unfold trB at h4
 rw [Bool.and_eq_true] at h2 h3 h4
 obtain ⟨t1,t2⟩:=h2
 obtain ⟨c1,c2⟩:=h3
 obtain ⟨n1,n2⟩:=h4
 have t1:=of_decide_eq_true t1
 have c1:=of_decide_eq_true c1
 have n1:=of_decide_eq_true n1
 have p3:=of_decide_eq_true p3
 unfold Plain.inB at p4
 have p4:=of_decide_eq_true p4
 unfold bodsB at p2
 have p2:=of_decide_eq_true p2
 have hb:∀ i,i < p.bods.length→(∀ j,j < (bodyOf p i).length→insX ((bodyOf p i).getD j z5) (bodyOf p i).length p.caps.length=true)∧(bodyOf p i).length≤24:=fun i hi=>by
  have q:=p2 i hi
  unfold bodyB at q
  rw [Bool.and_eq_true,Bool.and_eq_true,Bool.and_eq_true] at q
  exact ⟨of_decide_eq_true q.1,(of_decide_eq_true q.2.1).2⟩
 refine ⟨by omega,p3,t1,c1,n1,fun i t ht=>?_,fun i c hc=>?_,fun i hi=>(hb i hi).2,fun i j hi hj=>(hb i hi).1 j hj⟩
 ·have q:=all_get t2 i t ht
  unfold thB Plain.inB Plain.oneB at q
  simp at q
  exact ⟨q.1,q.2.1.1,q.2.1.2,q.2.2.1,q.2.2.2⟩
 ·have q:=all_get c2 i c hc
  unfold chB Plain.inB at q
  simp at q
  refine ⟨by unfold okC;simp;omega,by omega⟩
end
end Go.Proofs.YtknffngbdakblaaGreat
