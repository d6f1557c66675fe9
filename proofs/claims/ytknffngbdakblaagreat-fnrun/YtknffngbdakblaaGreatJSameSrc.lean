/- The laws' sameSource of two sources that read alike, and within. Conditions: the sources lie in memory as the reading says. -/
import Derived.Test.YtknffngbdakblaaGreatJG00
import Derived.Test.YtknffngbdakblaaGreatJG16
import Derived.Test.YtknffngbdakblaaGreatJG06
import Derived.Test.YtknffngbdakblaaGreatJG22
import Derived.Test.YtknffngbdakblaaGreatJG08
namespace Go.Proofs.YtknffngbdakblaaGreat
set_option linter.unusedSimpArgs false
set_option linter.unusedVariables false
set_option maxRecDepth 100000
open Go.RowKit
theorem hidK {p:Prop} (h:p):Hid p:=h
theorem NtsR.at {w wr:World} {lo hi:Nat} {s:Option Addr} {l:List ND} (h:NtsR w lo hi s l) (hB:hi≤w.heap.size) (hb:Below w.heap.size w wr) {k:Nat} {t:ND} (hk:l[k]? =some t):∃ g o,s=some ⟨g,o,none⟩∧g < w.heap.size∧wr.cell? ⟨g,o+k * 2,none⟩=some (.int .i64 t.who)∧wr.cell? ⟨g,o+k * 2+1,none⟩=some (.int .i64 t.v):=by
 rcases h with h | ⟨g,o,hs,h1,h2,hc⟩
 ·subst h;simp at hk
 ·have cc:∀ j,wr.cell? ⟨g,j,none⟩=w.cell? ⟨g,j,none⟩:=fun j=>hb.cell (p:=⟨g,j,none⟩) (by show g < _;omega)
  exact ⟨g,o,hs,by omega,(cc _).trans (hc k t hk).1,(cc _).trans (hc k t hk).2⟩
theorem RecsR.thd {w wr:World} {lo hi:Nat} {s:Option Addr} {l:List TD} (h:RecsR w lo hi s (l.map TD.rec3)) (hB:hi≤w.heap.size) (hb:Below w.heap.size w wr) {k:Nat} {t:TD} (hk:l[k]? =some t):∃ g o s' c',s=some ⟨g,o,none⟩∧g < w.heap.size∧wr.cell? ⟨g,o+k * 3,none⟩=some (.int .i64 t.pc)∧wr.cell? ⟨g,o+k * 3+1,none⟩=some (.slice s' t.regs.length c')∧wr.cell? ⟨g,o+k * 3+2,none⟩=some (.int .i64 t.st)∧IntsR wr lo hi s' t.regs:=by
 rcases h with h | ⟨g,o,hs,h1,h2,hc⟩
 ·have:l=[]:=by simpa using h
  subst this
  simp at hk
 ·obtain ⟨s',c',q1,q2,q3,q4⟩:=hc k t.rec3 (by rw [List.getElem?_map,hk];rfl)
  have cc:∀ j,wr.cell? ⟨g,j,none⟩=w.cell? ⟨g,j,none⟩:=fun j=>hb.cell (p:=⟨g,j,none⟩) (by show g < _;omega)
  exact ⟨g,o,s',c',hs,by omega,(cc _).trans q1,(cc _).trans q2,(cc _).trans q3,q4.keep (Keep.of_below hb hB)⟩
theorem RecsR.chn {w wr:World} {lo hi:Nat} {s:Option Addr} {l:List CD} (h:RecsR w lo hi s (l.map CD.rec3)) (hB:hi≤w.heap.size) (hb:Below w.heap.size w wr) {k:Nat} {t:CD} (hk:l[k]? =some t):∃ g o s' c',s=some ⟨g,o,none⟩∧g < w.heap.size∧wr.cell? ⟨g,o+k * 3,none⟩=some (.int .i64 t.cap)∧wr.cell? ⟨g,o+k * 3+1,none⟩=some (.slice s' t.list.length c')∧wr.cell? ⟨g,o+k * 3+2,none⟩=some (.bool t.cl)∧IntsR wr lo hi s' t.list:=by
 rcases h with h | ⟨g,o,hs,h1,h2,hc⟩
 ·have:l=[]:=by simpa using h
  subst this
  simp at hk
 ·obtain ⟨s',c',q1,q2,q3,q4⟩:=hc k t.rec3 (by rw [List.getElem?_map,hk];rfl)
  have cc:∀ j,wr.cell? ⟨g,j,none⟩=w.cell? ⟨g,j,none⟩:=fun j=>hb.cell (p:=⟨g,j,none⟩) (by show g < _;omega)
  exact ⟨g,o,s',c',hs,by omega,(cc _).trans q1,(cc _).trans q2,(cc _).trans q3,q4.keep (Keep.of_below hb hB)⟩
set_option maxHeartbeats 2000000 in
theorem sameNotes_eq (s s' : Option Addr) (c c' lo hi lo' hi' : Nat) (l : List ND) (w : World) (h : NtsR w lo hi s l) (h' : NtsR w lo' hi' s' l) (hB : hi ≤ w.heap.size) (hB' : hi' ≤ w.heap.size) (hl : l.length ≤ 1048576) :
  Calls Tryz.prog 36 #[.slice s l.length c,.slice s' l.length c'] w fun e w'=>e=.returned (.bool true)∧Below w.heap.size w w':=by
 have H:=hidK h
 have H':=hidK h'
 clear h h'
 have hne:((l.length:Int) !=(l.length:Int))=false:=by simp
 go_enter Tryz.func36,Tryz.ntmps36
 go_wp2
 go_loopw [5] (fun i wr=>∃ k:Nat,k≤l.length∧i=.int .i64 k∧Below w.heap.size w wr) (fun i _=>l.length - (intOf i).toNat)
 case atStart=>exact ⟨0,Nat.zero_le _,rfl,Below.refl _ _⟩
 case round=>
  obtain ⟨k,hk,rfl,hb⟩:=hrel
  have HB:=hidK hb
  by_cases hlt:k < l.length
  ·obtain ⟨t,ht⟩:∃ t,l[k]? =some t:=⟨_,List.getElem?_eq_getElem hlt⟩
   obtain ⟨g,o,es,hg,f0,f1⟩:=H.out.at hB hb ht
   obtain ⟨g',o',es',hg',f0',f1'⟩:=H'.out.at hB' hb ht
   have zb:=hb.size
   have hgr:g < wr.heap.size:=by omega
   have hgr':g' < wr.heap.size:=by omega
   subst es es'
   clear hb ht hne
   have b0:(0:Int)≤(k:Int):=by omega
   have b1:(k:Int) < (l.length:Int):=by omega
   go_wp2_with fail
   go_quiet (fail)
   go_wp2
   go_roundw
   case rel=>exact ⟨k+1,by omega,by go_num,HB.out.trans ⟨rfl,rfl,rfl,Nat.le_refl _,fun _ _=>rfl⟩⟩
   case measure=>simp [intOf];omega
  ·go_wp2
   go_ret
   exact ⟨rfl,HB.out⟩
set_option maxRecDepth 100000 in
set_option maxHeartbeats 4000000 in
theorem sameSource_eq (s1 s2 s3 r1 r2 r3 : Option Addr) (c1 c2 c3 d1 d2 d3 lo hi lo' hi' : Nat) (D : SD) (w : World) (h : SrcR w lo hi s1 s2 s3 D) (h' : SrcR w lo' hi' r1 r2 r3 D) (hB : hi ≤ w.heap.size) (hB' : hi' ≤ w.heap.size) (hf : SFits D) :
  Calls Tryz.prog 14 #[.agg #[.slice s1 D.ths.length c1,.slice s2 D.chs.length c2,.slice s3 D.tr.length c3],.agg #[.slice r1 D.ths.length d1,.slice r2 D.chs.length d2,.slice r3 D.tr.length d3]] w fun e w'=>e=.returned (.bool true)∧Below w.heap.size w w':=by
 have H:=hidK h
 have H':=hidK h'
 have HF:=hidK hf
 clear h h' hf
 have hn1:((D.ths.length:Int) !=(D.ths.length:Int))=false:=by simp
 have hn2:((D.chs.length:Int) !=(D.chs.length:Int))=false:=by simp
 have hL1:=HF.out.1.1
 have hL2:=HF.out.2.1.1
 go_enter Tryz.func14,Tryz.ntmps14
 go_wp2_with fail
 obtain ⟨W,hW⟩:∃ W,(w.alloc (.cells #[.slice s1 D.ths.length c1,.slice s2 D.chs.length c2,.slice s3 D.tr.length c3] 32)).alloc (.cells #[.slice r1 D.ths.length d1,.slice r2 D.chs.length d2,.slice r3 D.tr.length d3] 32)=W:=⟨_,rfl⟩
 have kW:Below w.heap.size w W:=by subst hW;exact ((Below.refl _ _).alloc (Nat.le_refl _) _).alloc (by simp) _
 have b1:BoF w.heap.size W (.slice s1 D.ths.length c1) (.slice s2 D.chs.length c2) (.slice s3 D.tr.length c3):=by
  subst hW
  exact ⟨by simp [go_sem],by simp [go_sem],by simp [go_sem],fun j=>by simp [go_sem],by simp;omega⟩
 have b2:BoF (w.heap.size+1) W (.slice r1 D.ths.length d1) (.slice r2 D.chs.length d2) (.slice r3 D.tr.length d3):=by
  subst hW
  exact ⟨by simp [go_sem],by simp [go_sem],by simp [go_sem],fun j=>by simp [go_sem],by simp⟩
 rw [hW]
 clear hW hn1 hn2
 have zW:=kW.size
 refine (sameNotes_eq s3 r3 c3 d3 lo hi lo' hi' D.tr W (H.out.2.2.keep (Keep.of_below kW hB)) (H'.out.2.2.keep (Keep.of_below kW hB')) (by omega) (by omega) HF.out.2.2).mono ?_
 rintro e w1 ⟨rfl,hb1⟩
 have B1:=hidK (b1.below hb1 b1.z)
 have B2:=hidK (b2.below hb1 b2.z)
 have K1:=hidK (kW.trans (hb1.mono zW))
 clear b1 b2 kW hb1
 go_wp2_with fail
 go_loopw [5] (fun i wr=>∃ k:Nat,k≤D.ths.length∧i=.int .i64 k∧Below w.heap.size w wr∧BoF w.heap.size wr (.slice s1 D.ths.length c1) (.slice s2 D.chs.length c2) (.slice s3 D.tr.length c3)∧BoF (w.heap.size+1) wr (.slice r1 D.ths.length d1) (.slice r2 D.chs.length d2) (.slice r3 D.tr.length d3)) (fun i _=>D.ths.length - (intOf i).toNat)
 case atStart=>exact ⟨0,Nat.zero_le _,rfl,K1.out,B1.out,B2.out⟩
 case round=>
  obtain ⟨k,hk,rfl,hb,hx1,hx2⟩:=hrel
  have HB:=hidK hb
  have X1:=hidK hx1
  have X2:=hidK hx2
  clear B1 B2 K1
  have zb:=hb.size
  obtain ⟨p0,-,-,-,pz⟩:=hx1
  obtain ⟨q0,-,-,-,qz⟩:=hx2
  by_cases hlt:k < D.ths.length
  ·obtain ⟨t,ht⟩:∃ t,D.ths[k]? =some t:=⟨_,List.getElem?_eq_getElem hlt⟩
   obtain ⟨g,o,s',c',es,hg,f0,f1,f2,fi⟩:=RecsR.thd H.out.1 hB hb ht
   obtain ⟨g',o',r',e',es',hg',f0',f1',f2',fi'⟩:=RecsR.thd H'.out.1 hB' hb ht
   have hl4:=HF.out.1.2 k t ht
   have hgr:g < wr.heap.size:=by omega
   have hgr':g' < wr.heap.size:=by omega
   subst es es'
   have CI:Hid (∀ X:Ext wr,Calls Tryz.prog 9 #[.slice s' t.regs.length c',.slice r' t.regs.length e'] X.w fun e w'=>e=.returned (.bool true)∧Below X.w.heap.size X.w w'):=fun X=>by
    have hz:=X.b.size
    refine (sameInts_any s' r' t.regs t.regs c' e' X.w ((fi.keep (Keep.of_below X.b (by omega))).ints (by omega)) ((fi'.keep (Keep.of_below X.b (by omega))).ints (by omega)) (by omega)).mono ?_
    rintro e w2 ⟨rfl,m,rfl⟩
    exact ⟨by simp,rfl,rfl,rfl,Nat.le_refl _,fun _ _=>rfl⟩
   clear hb ht fi fi'
   have b0:(0:Int)≤(k:Int):=by omega
   have b1:(k:Int) < (D.ths.length:Int):=by omega
   have hne:=ext_ne wr
   have u0:=Ext.fit p0 pz
   have u1:=Ext.fit q0 qz
   have u2:=Ext.fit f0 hgr
   have u3:=Ext.fit f1 hgr
   have u4:=Ext.fit f2 hgr
   have u5:=Ext.fit f0' hgr'
   have u6:=Ext.fit f1' hgr'
   have u7:=Ext.fit f2' hgr'
   go_wp2_with fail
   refine regionExt wr (by kernel_rfl) (by kernel_rfl) ?_
   repeat (go_big_quiet_step (first | (rename_i X;go_at_call 9;refine Calls.mono (CI.out X) ?_;rintro e w3 ⟨rfl,hb3⟩;exact ⟨rfl,X.on hb3⟩) | fail))
   refine wpQuiet_nil ?_
   rintro w5 ⟨X5,rfl⟩
   obtain ⟨U,hU⟩:∃ U,X5.w=U:=⟨_,rfl⟩
   have hb5:=X5.b
   rw [hU] at hb5 ⊢
   have K5:=hidK (HB.out.trans (hb5.mono zb))
   have B5:=hidK (X1.out.below hb5 pz)
   have B6:=hidK (X2.out.below hb5 qz)
   clear hU X5 hb5 hne u0 u1 u2 u3 u4 u5 u6 u7
   go_wp2
   go_roundw
   case rel=>exact ⟨k+1,by omega,by go_num,K5.out,B5.out,B6.out⟩
   case measure=>simp [intOf];omega
  ·go_wp2_with fail
   clear hb p0 q0
   go_loopw [6] (fun i wr=>∃ k:Nat,k≤D.chs.length∧i=.int .i64 k∧Below w.heap.size w wr∧BoF w.heap.size wr (.slice s1 D.ths.length c1) (.slice s2 D.chs.length c2) (.slice s3 D.tr.length c3)∧BoF (w.heap.size+1) wr (.slice r1 D.ths.length d1) (.slice r2 D.chs.length d2) (.slice r3 D.tr.length d3)) (fun i _=>D.chs.length - (intOf i).toNat)
   case atStart=>exact ⟨0,Nat.zero_le _,rfl,HB.out,X1.out,X2.out⟩
   case round=>
    obtain ⟨k,hk,rfl,hb,hx1,hx2⟩:=hrel
    have HC:=hidK hb
    have Y1:=hidK hx1
    have Y2:=hidK hx2
    have zb:=hb.size
    obtain ⟨-,p0,-,-,pz⟩:=hx1
    obtain ⟨-,q0,-,-,qz⟩:=hx2
    by_cases hlt:k < D.chs.length
    ·obtain ⟨t,ht⟩:∃ t,D.chs[k]? =some t:=⟨_,List.getElem?_eq_getElem hlt⟩
     obtain ⟨g,o,s',c',es,hg,f0,f1,f2,fi⟩:=RecsR.chn H.out.2.1 hB hb ht
     obtain ⟨g',o',r',e',es',hg',f0',f1',f2',fi'⟩:=RecsR.chn H'.out.2.1 hB' hb ht
     have hl4:=HF.out.2.1.2 k t ht
     have hgr:g < wr.heap.size:=by omega
     have hgr':g' < wr.heap.size:=by omega
     subst es es'
     have CI:Hid (∀ X:Ext wr,Calls Tryz.prog 9 #[.slice s' t.list.length c',.slice r' t.list.length e'] X.w fun e w'=>e=.returned (.bool true)∧Below X.w.heap.size X.w w'):=fun X=>by
      have hz:=X.b.size
      refine (sameInts_any s' r' t.list t.list c' e' X.w ((fi.keep (Keep.of_below X.b (by omega))).ints (by omega)) ((fi'.keep (Keep.of_below X.b (by omega))).ints (by omega)) (by omega)).mono ?_
      rintro e w2 ⟨rfl,m,rfl⟩
      exact ⟨by simp,rfl,rfl,rfl,Nat.le_refl _,fun _ _=>rfl⟩
     clear hb ht fi fi'
     have b0:(0:Int)≤(k:Int):=by omega
     have b1:(k:Int) < (D.chs.length:Int):=by omega
     have hne:=ext_ne wr
     have u0:=Ext.fit p0 pz
     have u1:=Ext.fit q0 qz
     have u2:=Ext.fit f0 hgr
     have u3:=Ext.fit f1 hgr
     have u4:=Ext.fit f2 hgr
     have u5:=Ext.fit f0' hgr'
     have u6:=Ext.fit f1' hgr'
     have u7:=Ext.fit f2' hgr'
     go_wp2_with fail
     refine regionExt wr (by kernel_rfl) (by kernel_rfl) ?_
     repeat (go_big_quiet_step (first | (rename_i X;go_at_call 9;refine Calls.mono (CI.out X) ?_;rintro e w3 ⟨rfl,hb3⟩;exact ⟨rfl,X.on hb3⟩) | fail))
     refine wpQuiet_nil ?_
     rintro w5 ⟨X5,rfl⟩
     obtain ⟨U,hU⟩:∃ U,X5.w=U:=⟨_,rfl⟩
     have hb5:=X5.b
     rw [hU] at hb5 ⊢
     have K5:=hidK (HC.out.trans (hb5.mono zb))
     have B5:=hidK (Y1.out.below hb5 pz)
     have B6:=hidK (Y2.out.below hb5 qz)
     clear hU X5 hb5 hne u0 u1 u2 u3 u4 u5 u6 u7
     go_wp2
     go_roundw
     case rel=>exact ⟨k+1,by omega,by go_num,K5.out,B5.out,B6.out⟩
     case measure=>simp [intOf];omega
    ·go_wp2
     go_ret
     exact ⟨rfl,HC.out⟩
end Go.Proofs.YtknffngbdakblaaGreat
