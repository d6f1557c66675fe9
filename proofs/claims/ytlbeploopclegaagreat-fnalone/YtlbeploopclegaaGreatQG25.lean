/- sameInts of the laws, beside Lists. Conditions: rows of at most a thousand million numbers. The laws' sameMachine of two machines that read alike. Conditions: the machines lie in memory as the reading says. -/
import Derived.Test.YtlbeploopclegaaGreatQG00
import Derived.Test.YtlbeploopclegaaGreatQG01
import Derived.Test.YtlbeploopclegaaGreatQG02
import Derived.Test.YtlbeploopclegaaGreatQG03
import Derived.Test.YtlbeploopclegaaGreatQG04
import Derived.Test.YtlbeploopclegaaGreatQG20
import Derived.Deep.RegionHeld3
import Derived.Deep.DeepCutAuto
namespace Go.Proofs.YtlbeploopclegaaGreat
section
set_option linter.unusedSimpArgs false
set_option linter.unusedVariables false
set_option maxRecDepth 100000
open Go.RowKit
set_option maxHeartbeats 400000 in
theorem sameInts_any (s s' : Option Addr) (l l' : List Int) (c c' : Nat) (w : World) (h : Ints w s l) (h' : Ints w s' l') (hb : l.length ≤ 1000000000) :
  Calls Tryz.prog 17 #[.slice s l.length c,.slice s' l'.length c'] w fun e w'=>e=.returned (.bool (decide (l=l')))∧∃ n,w'=w.drewN n:=by
 by_cases hn:l.length=l'.length
 ·have hne:((l.length:Int) !=(l'.length:Int))=false:=by simp;omega
  have HN:Hid (l.length=l'.length):=hn
  rcases h with rfl | ⟨g,o,rfl,hg,hc⟩
  ·have:l'=[]:=by cases l' with | nil=>rfl | cons a t=>simp at hn
   subst this
   clear hn
   go_enter Tryz.func17,Tryz.ntmps17
   go_wp2
   go_loop [5] (fun i=>i=.int .i64 0) (fun _=>0)
   case atStart=>rfl
   case round=>
    subst hrel
    go_wp2
    go_ret
    exact ⟨by simp,0,rfl⟩
  ·rcases h' with rfl | ⟨g',o',rfl,hg',hc'⟩
   ·have:l=[]:=by cases l with | nil=>rfl | cons a t=>simp at hn
    subst this
    clear hn
    go_enter Tryz.func17,Tryz.ntmps17
    go_wp2
    go_loop [5] (fun i=>i=.int .i64 0) (fun _=>0)
    case atStart=>rfl
    case round=>
     subst hrel
     go_wp2
     go_ret
     exact ⟨by simp,0,rfl⟩
   ·have HC:Hid (∀ i,i < l.length→w.cell? ⟨g,o+i,none⟩=some (.int .i64 (l.getD i 0))):=hc
    have HC':Hid (∀ i,i < l'.length→w.cell? ⟨g',o'+i,none⟩=some (.int .i64 (l'.getD i 0))):=hc'
    clear hn hc hc'
    go_enter Tryz.func17,Tryz.ntmps17
    go_wp2
    go_loopw [5] (fun i wr=>∃ k m:Nat,k≤l.length∧i=.int .i64 k∧(∀ j,j < k→l.getD j 0=l'.getD j 0)∧wr=w.drewN m) (fun i _=>l.length - (intOf i).toNat)
    case atStart=>exact ⟨0,0,Nat.zero_le _,rfl,fun j hj=>absurd hj (Nat.not_lt_zero _),rfl⟩
    case round=>
     obtain ⟨k,m,hk,rfl,hj,rfl⟩:=hrel
     have HJ:Hid (∀ j,j < k→l.getD j 0=l'.getD j 0):=hj
     clear hj
     by_cases hlt:k < l.length
     ·have hlt':k < l'.length:=by have:=HN.out;omega
      have e1:=HC.out k hlt
      have e2:=HC'.out k hlt'
      generalize hx:l.getD k 0=x at e1
      generalize hy:l'.getD k 0=y at e2
      have HX:Hid (l.getD k 0=x):=hx
      have HY:Hid (l'.getD k 0=y):=hy
      clear hx hy
      have b0:(0:Int)≤(k:Int):=by omega
      have b1:(k:Int) < (l.length:Int):=by omega
      have b2:(k:Int) < (l'.length:Int):=by omega
      by_cases hxy:x=y
      ·have hd:(x !=y)=false:=by simp [hxy]
       have HXY:Hid (x=y):=hxy
       clear hxy
       go_wp2_with fail
       go_quiet (fail)
       go_wp2
       go_roundw
       case rel=>
        refine ⟨k+1,_,by omega,by go_num,?_,rfl⟩
        intro j hj
        by_cases e:j < k
        ·exact HJ.out j e
        ·have:j=k:=by omega
         subst this
         rw [HX.out,HY.out,HXY.out]
       case measure=>simp [intOf];omega
      ·have hd:(x !=y)=true:=by simp [hxy]
       have HXY:Hid (¬ x=y):=hxy
       clear hxy
       go_wp2_with fail
       go_quiet (fail)
       go_wp2
       go_ret
       refine ⟨ret_bool' ?_,m+nq,World.drewN_drewN _ _ _⟩
       symm
       rw [decide_eq_false_iff_not]
       rintro rfl
       exact HXY.out (HX.out.symm.trans HY.out)
     ·go_wp2
      go_ret
      refine ⟨ret_bool' ?_,_,rfl⟩
      symm
      rw [decide_eq_true_iff]
      exact getD_eq_all l l' HN.out (fun j hj=>HJ.out j (by omega))
 ·have hne:((l.length:Int) !=(l'.length:Int))=true:=by simp;omega
  have HN:Hid (¬ l.length=l'.length):=hn
  clear hn
  go_enter Tryz.func17,Tryz.ntmps17
  go_wp2
  go_ret
  refine ⟨ret_bool' ?_,0,rfl⟩
  symm
  rw [decide_eq_false_iff_not]
  rintro rfl
  exact HN.out rfl
end
section
set_option linter.unusedSimpArgs false
set_option linter.unusedVariables false
set_option maxRecDepth 100000
open Go.RowKit
theorem hidSm {p:Prop} (h:p):Hid p:=h
theorem NtsR.atS {w wr:World} {lo hi:Nat} {s:Option Addr} {l:List ND} (h:NtsR w lo hi s l) (hB:hi≤w.heap.size) (hb:Below w.heap.size w wr) {k:Nat} {t:ND} (hk:l[k]? =some t):∃ g o,s=some ⟨g,o,none⟩∧g < w.heap.size∧wr.cell? ⟨g,o+k * 2,none⟩=some (.int .i64 t.who)∧wr.cell? ⟨g,o+k * 2+1,none⟩=some (.int .i64 t.v):=by
 rcases h with h | ⟨g,o,hs,h1,h2,hc⟩
 ·subst h;simp at hk
 ·have cc:∀ j,wr.cell? ⟨g,j,none⟩=w.cell? ⟨g,j,none⟩:=fun j=>hb.cell (p:=⟨g,j,none⟩) (by show g < _;omega)
  exact ⟨g,o,hs,by omega,(cc _).trans (hc k t hk).1,(cc _).trans (hc k t hk).2⟩
theorem IntsR.intsS {w:World} {lo hi:Nat} {s:Option Addr} {l:List Int} (h:IntsR w lo hi s l) (hB:hi≤w.heap.size):Ints w s l:=by
 rcases h with e | ⟨g,o,e,-,h2,hc⟩
 ·exact .inl e
 ·exact .inr ⟨g,o,e,Nat.lt_of_lt_of_le h2 hB,hc⟩
set_option maxHeartbeats 2000000 in
theorem sameNotes_eqS (s s' : Option Addr) (c c' lo hi lo' hi' : Nat) (l : List ND) (w : World) (h : NtsR w lo hi s l) (h' : NtsR w lo' hi' s' l) (hB : hi ≤ w.heap.size) (hB' : hi' ≤ w.heap.size) (hl : l.length ≤ 1048576) :
  Calls Tryz.prog 48 #[.slice s l.length c,.slice s' l.length c'] w fun e w'=>e=.returned (.bool true)∧Below w.heap.size w w':=by
 have H:=hidSm h
 have H':=hidSm h'
 clear h h'
 have hne:((l.length:Int) !=(l.length:Int))=false:=by simp
 go_enter Tryz.func48,Tryz.ntmps48
 go_wp2
 go_loopw [5] (fun i wr=>∃ k:Nat,k≤l.length∧i=.int .i64 k∧Below w.heap.size w wr) (fun i _=>l.length - (intOf i).toNat)
 case atStart=>exact ⟨0,Nat.zero_le _,rfl,Below.refl _ _⟩
 case round=>
  obtain ⟨k,hk,rfl,hb⟩:=hrel
  have HB:=hidSm hb
  by_cases hlt:k < l.length
  ·obtain ⟨t,ht⟩:∃ t,l[k]? =some t:=⟨_,List.getElem?_eq_getElem hlt⟩
   obtain ⟨g,o,es,hg,f0,f1⟩:=H.out.atS hB hb ht
   obtain ⟨g',o',es',hg',f0',f1'⟩:=H'.out.atS hB' hb ht
   have zb:=hb.size
   have hgr:g < wr.heap.size:=by omega
   have hgr':g' < wr.heap.size:=by omega
   subst es es'
   clear hb ht hne
   have b0:(0:Int)≤(k:Int):=by omega
   have b1:(k:Int) < (l.length:Int):=by omega
   go_wp2_with fail
   go_quiet (fail)
   go_wp2
   go_roundw
   case rel=>exact ⟨k+1,by omega,by go_num,HB.out.trans ⟨rfl,rfl,rfl,Nat.le_refl _,fun _ _=>rfl⟩⟩
   case measure=>simp [intOf];omega
  ·go_wp2
   go_ret
   exact ⟨rfl,HB.out⟩
def CutS8 (W:World) (t u:KD) (s6 s7:Value) (wc:World):Prop:=∃ (b1 b2:Nat) (u1 u2 v1 v2:Option Addr) (x1 x2 y1 y2:Nat),s6=.pointer (some ⟨b1,0,none⟩)∧s7=.pointer (some ⟨b2,0,none⟩)∧X4 wc b1 (.int .i64 t.pc) (.slice u1 t.regs.length x1) (.slice u2 t.vw.length x2) (.int .i64 t.st)∧X4 wc b2 (.int .i64 u.pc) (.slice v1 u.regs.length y1) (.slice v2 u.vw.length y2) (.int .i64 u.st)∧Below W.heap.size W wc∧IntsR wc 0 W.heap.size u1 t.regs∧IntsR wc 0 W.heap.size u2 t.vw∧IntsR wc 0 W.heap.size v1 u.regs∧IntsR wc 0 W.heap.size v2 u.vw
theorem cutS8_of {W wc:World} {t u:KD} {b1 b2:Nat} {u1 u2 v1 v2:Option Addr} {x1 x2 y1 y2:Nat} (h1:X4 wc b1 (.int .i64 t.pc) (.slice u1 t.regs.length x1) (.slice u2 t.vw.length x2) (.int .i64 t.st)) (h2:X4 wc b2 (.int .i64 u.pc) (.slice v1 u.regs.length y1) (.slice v2 u.vw.length y2) (.int .i64 u.st)) (k:Below W.heap.size W wc) (a1:IntsR W 0 W.heap.size u1 t.regs) (a2:IntsR W 0 W.heap.size u2 t.vw) (a3:IntsR W 0 W.heap.size v1 u.regs) (a4:IntsR W 0 W.heap.size v2 u.vw):CutS8 W t u (.pointer (some ⟨b1,0,none⟩)) (.pointer (some ⟨b2,0,none⟩)) wc:=by
 have kk:Keep 0 W.heap.size W wc:=Keep.of_below k (Nat.le_refl _)
 exact ⟨b1,b2,u1,u2,v1,v2,x1,x2,y1,y2,rfl,rfl,h1,h2,k,a1.keep kk,a2.keep kk,a3.keep kk,a4.keep kk⟩
theorem two4c (w:World) (a0 a1 a2 a3 b0 b1 b2 b3:Value) (T T':TypeId):Below w.heap.size w ((w.alloc (.cells #[a0,a1,a2,a3] T)).alloc (.cells #[b0,b1,b2,b3] T')).drew∧X4 ((w.alloc (.cells #[a0,a1,a2,a3] T)).alloc (.cells #[b0,b1,b2,b3] T')).drew w.heap.size a0 a1 a2 a3∧X4 ((w.alloc (.cells #[a0,a1,a2,a3] T)).alloc (.cells #[b0,b1,b2,b3] T')).drew (w.heap.size+1) b0 b1 b2 b3:=by
 obtain ⟨W0,hW0,x0,k0,z0⟩:=X4.new w a0 a1 a2 a3 T
 have zz:W0.heap.size=w.heap.size+1:=by rw [← hW0];simp
 obtain ⟨W,hW,x1,k1,z1⟩:=X4.new W0 b0 b1 b2 b3 T'
 rw [hW0,hW]
 have kd:Below W.heap.size W W.drew:=(Below.refl _ _).drew
 refine ⟨(k0.trans (k1.mono (by omega))).trans (kd.mono (by have:=k1.size;omega)),(x0.keep k1 z0).keep kd (by have:=k1.size;omega),?_⟩
 rw [zz] at x1 z1
 exact x1.keep kd z1
theorem cutS8_a {W:World} {t u:KD} {u1 u2 v1 v2:Option Addr} {x1 x2 y1 y2:Nat} (a1:IntsR W 0 W.heap.size u1 t.regs) (a2:IntsR W 0 W.heap.size u2 t.vw) (a3:IntsR W 0 W.heap.size v1 u.regs) (a4:IntsR W 0 W.heap.size v2 u.vw):CutS8 W t u (.pointer (some ⟨W.heap.size,0,none⟩)) (.pointer (some ⟨W.heap.size+1,0,none⟩)) ((W.alloc (.cells #[.int .i64 t.pc,.slice u1 t.regs.length x1,.slice u2 t.vw.length x2,.int .i64 t.st] 53)).alloc (.cells #[.int .i64 u.pc,.slice v1 u.regs.length y1,.slice v2 u.vw.length y2,.int .i64 u.st] 53)).drew:=by
 obtain ⟨k,h1,h2⟩:=two4c W (.int .i64 t.pc) (.slice u1 t.regs.length x1) (.slice u2 t.vw.length x2) (.int .i64 t.st) (.int .i64 u.pc) (.slice v1 u.regs.length y1) (.slice v2 u.vw.length y2) (.int .i64 u.st) 53 53
 exact cutS8_of h1 h2 k a1 a2 a3 a4
theorem cutS8_b {W:World} {t u:KD} {u1 u2 v1 v2:Option Addr} {x1 x2 y1 y2:Nat} (a1:IntsR W 0 W.heap.size u1 t.regs) (a2:IntsR W 0 W.heap.size u2 t.vw) (a3:IntsR W 0 W.heap.size v1 u.regs) (a4:IntsR W 0 W.heap.size v2 u.vw):CutS8 W t u (.pointer (some ⟨W.heap.size+1,0,none⟩)) (.pointer (some ⟨W.heap.size,0,none⟩)) ((W.alloc (.cells #[.int .i64 u.pc,.slice v1 u.regs.length y1,.slice v2 u.vw.length y2,.int .i64 u.st] 53)).alloc (.cells #[.int .i64 t.pc,.slice u1 t.regs.length x1,.slice u2 t.vw.length x2,.int .i64 t.st] 53)).drew:=by
 obtain ⟨k,h1,h2⟩:=two4c W (.int .i64 u.pc) (.slice v1 u.regs.length y1) (.slice v2 u.vw.length y2) (.int .i64 u.st) (.int .i64 t.pc) (.slice u1 t.regs.length x1) (.slice u2 t.vw.length x2) (.int .i64 t.st) 53 53
 exact cutS8_of h2 h1 k a1 a2 a3 a4
theorem WsR.val {w U:World} {lo hi:Nat} {s:Option Addr} {l:List WD} (h:WsR w lo hi s l) {n:Nat} {t:WD} (ht:l[n]? =some t) (hB:hi≤w.heap.size) (hb:Below w.heap.size w U):∃ g o,s=some ⟨g,o,none⟩∧g < U.heap.size∧U.cell? ⟨g,o+n * 2,none⟩=some (.int .i64 t.v):=by
 have hz:=hb.size
 rcases h with e | ⟨g,o,e,-,h2,hc⟩
 ·rw [e] at ht;simp at ht
 ·obtain ⟨s',c',q,-,-⟩:=hc n t ht
  exact ⟨g,o,e,by omega,(hb.cell (p:=⟨g,o+n * 2,none⟩) (by show g < _;omega)).trans q⟩
set_option maxRecDepth 100000 in
set_option maxHeartbeats 8000000 in
theorem sameMach_eq (s1 s2 s3 s4 r1 r2 r3 r4 : Option Addr) (c1 c2 c3 c4 e1 e2 e3 e4 lo hi lo' hi' : Nat) (d : MD) (w : World) (h : MaR w lo hi s1 s2 s3 s4 d) (h' : MaR w lo' hi' r1 r2 r3 r4 d) (hB : hi ≤ w.heap.size) (hB' : hi' ≤ w.heap.size) (hf : MaSz d ≤ 1048576) :
  Calls Tryz.prog 14 #[.agg #[.slice s1 d.codes.length c1,.slice s2 d.cores.length c2,.slice s3 d.mem.length c3,.slice s4 d.tr.length c4],.agg #[.slice r1 d.codes.length e1,.slice r2 d.cores.length e2,.slice r3 d.mem.length e3,.slice r4 d.tr.length e4]] w fun e w'=>e=.returned (.bool true)∧Below w.heap.size w w':=by
 have H:=hidSm h
 have H':=hidSm h'
 have HF:=hidSm hf
 have hn1:((d.cores.length:Int) !=(d.cores.length:Int))=false:=by simp
 have hn2:((d.mem.length:Int) !=(d.mem.length:Int))=false:=by simp
 unfold MaSz at hf
 have hL1:d.cores.length≤1048576:=by omega
 have hL2:d.mem.length≤1048576:=by omega
 have hL3:d.tr.length≤1048576:=by omega
 clear h h' hf
 go_enter Tryz.func14,Tryz.ntmps14
 obtain ⟨W0,hW0,x0,k0,z0⟩:=X4.new w (.slice s1 d.codes.length c1) (.slice s2 d.cores.length c2) (.slice s3 d.mem.length c3) (.slice s4 d.tr.length c4) 38
 obtain ⟨W,hW,x1,k1,z1⟩:=X4.new W0 (.slice r1 d.codes.length e1) (.slice r2 d.cores.length e2) (.slice r3 d.mem.length e3) (.slice r4 d.tr.length e4) 38
 have zz:W0.heap.size=w.heap.size+1:=by rw [← hW0];simp
 have b1:Hid (X4 W w.heap.size (.slice s1 d.codes.length c1) (.slice s2 d.cores.length c2) (.slice s3 d.mem.length c3) (.slice s4 d.tr.length c4)):=x0.keep k1 z0
 rw [zz] at x1
 have kW:=k0.trans (k1.mono (by omega))
 have HW:Hid ((w.alloc (.cells #[.slice s1 d.codes.length c1,.slice s2 d.cores.length c2,.slice s3 d.mem.length c3,.slice s4 d.tr.length c4] 38)).alloc (.cells #[.slice r1 d.codes.length e1,.slice r2 d.cores.length e2,.slice r3 d.mem.length e3,.slice r4 d.tr.length e4] 38)=W):=by
  show _=W
  rw [hW0]
  exact hW
 clear hW0 hW x0 k0 z0 k1
 go_upto_region 1 with fail
 rw [HW.out]
 clear HW
 have zW:=kW.size
 have B1:=b1
 have B2:=hidSm x1
 have KW:=hidSm kW
 clear b1 x1 kW z1 zz W0
 obtain ⟨⟨pz,p0,p1,p2,p3⟩,-⟩:=B1.out
 obtain ⟨⟨qz,q0,q1,q2,q3⟩,-⟩:=B2.out
 go_wp2_with fail
 refine (sameNotes_eqS s4 r4 c4 e4 lo hi lo' hi' d.tr W (H.out.2.2.2.keep (Keep.of_below KW.out hB)) (H'.out.2.2.2.keep (Keep.of_below KW.out hB')) (by omega) (by omega) hL3).mono ?_
 rintro e w1 ⟨rfl,hb1⟩
 have B3:=hidSm (B1.out.keep hb1 pz)
 have B4:=hidSm (B2.out.keep hb1 qz)
 have K1:=hidSm (KW.out.trans (hb1.mono zW))
 clear B1 B2 KW hb1 pz p0 p1 p2 p3 qz q0 q1 q2 q3
 obtain ⟨⟨pz,p0,p1,p2,p3⟩,-⟩:=B3.out
 obtain ⟨⟨qz,q0,q1,q2,q3⟩,-⟩:=B4.out
 go_wp2_with fail
 clear pz p0 p1 p2 p3 qz q0 q1 q2 q3
 go_loopw [5] (fun i wr=>∃ k:Nat,k≤d.cores.length∧i=.int .i64 k∧Below w.heap.size w wr∧X4 wr w.heap.size (.slice s1 d.codes.length c1) (.slice s2 d.cores.length c2) (.slice s3 d.mem.length c3) (.slice s4 d.tr.length c4)∧X4 wr (w.heap.size+1) (.slice r1 d.codes.length e1) (.slice r2 d.cores.length e2) (.slice r3 d.mem.length e3) (.slice r4 d.tr.length e4)) (fun i _=>d.cores.length - (intOf i).toNat)
 case atStart=>exact ⟨0,Nat.zero_le _,rfl,K1.out,B3.out,B4.out⟩
 case round=>
  obtain ⟨k,hk,rfl,hb,hx1,hx2⟩:=hrel
  have HB:=hidSm hb
  have X1:=hidSm hx1
  have X2:=hidSm hx2
  clear B3 B4 K1 hx1 hx2
  have zb:=hb.size
  obtain ⟨⟨pz,p0,p1,p2,p3⟩,-⟩:=X1.out
  obtain ⟨⟨qz,q0,q1,q2,q3⟩,-⟩:=X2.out
  by_cases hlt:k < d.cores.length
  ·obtain ⟨t,ht⟩:∃ t,d.cores[k]? =some t:=⟨_,List.getElem?_eq_getElem hlt⟩
   obtain ⟨g,o,u1,x1,u2,x2,es,-,hg,f0,f1,f2,f3,i1,i2⟩:=(H.out.2.1.keep (Keep.of_below hb hB)).at ht
   obtain ⟨g',o',v1,y1,v2,y2,es',-,hg',f0',f1',f2',f3',i1',i2'⟩:=(H'.out.2.1.keep (Keep.of_below hb hB')).at ht
   have hgr:g < wr.heap.size:=by omega
   have hgr':g' < wr.heap.size:=by omega
   have I1:=hidSm (i1.mono (Nat.zero_le _) (show hi≤wr.heap.size by omega))
   have I2:=hidSm (i2.mono (Nat.zero_le _) (show hi≤wr.heap.size by omega))
   have I3:=hidSm (i1'.mono (Nat.zero_le _) (show hi'≤wr.heap.size by omega))
   have I4:=hidSm (i2'.mono (Nat.zero_le _) (show hi'≤wr.heap.size by omega))
   have hT:t.regs.length≤1048576∧t.vw.length≤1048576:=by
    have q:=szK_at d.cores k t ht
    have q2:=HF.out
    unfold MaSz at q2
    omega
   have HT:=hidSm hT
   subst es es'
   clear hb ht i1 i2 i1' i2' hT p0 p2 p3 q0 q2 q3
   have b0:(0:Int)≤(k:Int):=by omega
   have b1:(k:Int) < (d.cores.length:Int):=by omega
   go_wp2_with fail
   go_cut [6,7] (fun s6 s7 wx=>CutS8 wr t t s6 s7 wx)
   case first=>
    go_region_held3 (fun w'=>w'.cell? ⟨w.heap.size,1,none⟩=some (.slice (some ⟨g,o,none⟩) d.cores.length c2)∧w'.cell? ⟨w.heap.size+1,1,none⟩=some (.slice (some ⟨g',o',none⟩) d.cores.length e2)∧w'.cell? ⟨g,o+k * 4,none⟩=some (.int .i64 t.pc)∧w'.cell? ⟨g,o+k * 4+1,none⟩=some (.slice u1 t.regs.length x1)∧w'.cell? ⟨g,o+k * 4+2,none⟩=some (.slice u2 t.vw.length x2)∧w'.cell? ⟨g,o+k * 4+3,none⟩=some (.int .i64 t.st)∧w'.cell? ⟨g',o'+k * 4,none⟩=some (.int .i64 t.pc)∧w'.cell? ⟨g',o'+k * 4+1,none⟩=some (.slice v1 t.regs.length y1)∧w'.cell? ⟨g',o'+k * 4+2,none⟩=some (.slice v2 t.vw.length y2)∧w'.cell? ⟨g',o'+k * 4+3,none⟩=some (.int .i64 t.st)) (go_keep) (fail)
    all_goals
     go_wp2_with fail
     go_meet
     first
      | with_reducible exact cutS8_a I1.out I2.out I3.out I4.out
      | with_reducible exact cutS8_b I1.out I2.out I3.out I4.out
   case rest=>
    obtain ⟨bx,by',a1,a2,a3,a4,n1,n2,n3,n4,rfl,rfl,xx,xy,kx,j1,j2,j3,j4⟩:=hcut
    have KX:=hidSm kx
    have J1:=hidSm j1
    have J2:=hidSm j2
    have J3:=hidSm j3
    have J4:=hidSm j4
    have Y1:=hidSm (X1.out.keep kx pz)
    have Y2:=hidSm (X2.out.keep kx qz)
    obtain ⟨⟨z1,m0,m1,m2,m3⟩,-⟩:=xx
    obtain ⟨⟨z2,l0,l1,l2,l3⟩,-⟩:=xy
    have zk:=kx.size
    clear kx j1 j2 j3 j4 I1 I2 I3 I4 p1 q1 pz qz f0 f1 f2 f3 f0' f1' f2' f3' X1 X2 hgr hgr'
    go_wp2_with fail
    refine (sameInts_any a1 a3 t.regs t.regs n1 n3 wc (J1.out.intsS (by omega)) (J3.out.intsS (by omega)) (by have:=HT.out;omega)).mono ?_
    rintro e w3 ⟨rfl,m,rfl⟩
    rw [decide_eq_true (rfl:t.regs=t.regs)]
    have kd:Below wc.heap.size wc (wc.drewN m):=⟨rfl,rfl,rfl,Nat.le_refl _,fun _ _=>rfl⟩
    obtain ⟨V,hV⟩:∃ V,wc.drewN m=V:=⟨_,rfl⟩
    rw [hV] at kd ⊢
    clear hV
    have m0':=(kd.cell (p:=⟨bx,2,none⟩) z1).trans m2
    have l0':=(kd.cell (p:=⟨by',2,none⟩) z2).trans l2
    have zv:=kd.size
    have KD5:=hidSm kd
    have J2':=hidSm (J2.out.keep (Keep.of_below kd (by omega)))
    have J4':=hidSm (J4.out.keep (Keep.of_below kd (by omega)))
    clear m0 m1 m2 m3 l0 l1 l2 l3 kd J1 J3 J2 J4
    go_wp2_with fail
    refine (sameInts_any a2 a4 t.vw t.vw n2 n4 V (J2'.out.intsS (by omega)) (J4'.out.intsS (by omega)) (by have:=HT.out;omega)).mono ?_
    rintro e w4 ⟨rfl,m',rfl⟩
    rw [decide_eq_true (rfl:t.vw=t.vw)]
    have kd:Below V.heap.size V (V.drewN m'):=⟨rfl,rfl,rfl,Nat.le_refl _,fun _ _=>rfl⟩
    obtain ⟨U,hU⟩:∃ U,V.drewN m'=U:=⟨_,rfl⟩
    rw [hU] at kd ⊢
    clear hU
    have kk:Below wr.heap.size wr U:=(KX.out.trans (KD5.out.mono zk)).trans (kd.mono (by omega))
    have HU:=hidSm (HB.out.trans (kk.mono zb))
    have kk2:Below wc.heap.size wc U:=KD5.out.trans (kd.mono (by omega))
    have Z1:=hidSm (Y1.out.keep kk2 Y1.out.x.z)
    have Z2:=hidSm (Y2.out.keep kk2 Y2.out.x.z)
    clear kk kk2 kd Y1 Y2
    go_wp2
    go_roundw
    case rel=>exact ⟨k+1,by omega,by go_num,HU.out,Z1.out,Z2.out⟩
    case measure=>simp [intOf];omega
  ·go_wp2_with fail
   clear hb pz p0 p1 p2 p3 qz q0 q1 q2 q3
   go_loopw [8] (fun i wr=>∃ k:Nat,k≤d.mem.length∧i=.int .i64 k∧Below w.heap.size w wr∧X4 wr w.heap.size (.slice s1 d.codes.length c1) (.slice s2 d.cores.length c2) (.slice s3 d.mem.length c3) (.slice s4 d.tr.length c4)∧X4 wr (w.heap.size+1) (.slice r1 d.codes.length e1) (.slice r2 d.cores.length e2) (.slice r3 d.mem.length e3) (.slice r4 d.tr.length e4)) (fun i _=>d.mem.length - (intOf i).toNat)
   case atStart=>exact ⟨0,Nat.zero_le _,rfl,HB.out,X1.out,X2.out⟩
   case round=>
    clear HB X1 X2 zb hlt hk
    obtain ⟨k,hk,rfl,hb,hx1,hx2⟩:=hrel
    have HB:=hidSm hb
    have X1:=hidSm hx1
    have X2:=hidSm hx2
    clear hx1 hx2
    have zb:=hb.size
    obtain ⟨⟨pz,p0,p1,p2,p3⟩,-⟩:=X1.out
    obtain ⟨⟨qz,q0,q1,q2,q3⟩,-⟩:=X2.out
    clear p0 p1 p3 q0 q1 q3
    by_cases hlt:k < d.mem.length
    ·obtain ⟨l,hl⟩:∃ l,d.mem[k]? =some l:=⟨_,List.getElem?_eq_getElem hlt⟩
     obtain ⟨g,o,u1,x1,es,-,hg,f0,ws⟩:=(H.out.2.2.1.keep (Keep.of_below hb hB)).row hl
     obtain ⟨g',o',v1,y1,es',-,hg',f0',ws'⟩:=(H'.out.2.2.1.keep (Keep.of_below hb hB')).row hl
     have hgr:g < wr.heap.size:=by omega
     have hgr':g' < wr.heap.size:=by omega
     have hL:l.length≤1048576:=by
      have q:=szR_at d.mem k l hl
      have q2:=HF.out
      unfold MaSz at q2
      omega
     subst es es'
     have b0:(0:Int)≤(k:Int):=by omega
     have b1:(k:Int) < (d.mem.length:Int):=by omega
     clear hb
     obtain ⟨m,hm⟩:∃ m,l.length=m:=⟨_,rfl⟩
     rw [hm] at f0 f0' hL
     refine (Nat.eq_zero_or_pos m).elim (fun h0=>?n0) (fun h0=>?n1)
     case n0=>
      subst h0
      have hne:=ext_ne wr
      have ua:=Ext.fit p2 pz
      have ub:=Ext.fit q2 qz
      have uc:=Ext.fit f0 hgr
      have ud:=Ext.fit f0' hgr'
      go_wp2_with fail
      refine regionExt wr (by kernel_rfl) (by kernel_rfl) ?_
      repeat (go_big_quiet_step (fail))
      refine wpQuiet_nil ?_
      rintro w5 ⟨X5,rfl⟩
      obtain ⟨U,hU⟩:∃ U,X5.w=U:=⟨_,rfl⟩
      have hb5:=X5.b
      rw [hU] at hb5 ⊢
      clear hU X5 hne ua ub uc ud
      have K5:=hidSm (HB.out.trans (hb5.mono zb))
      have Y1:=hidSm (X1.out.keep hb5 pz)
      have Y2:=hidSm (X2.out.keep hb5 qz)
      clear f0 f0'
      have hne:=ext_ne U
      go_wp2_with fail
      refine regionExt U (by kernel_rfl) (by kernel_rfl) ?_
      repeat (go_big_quiet_step (fail))
      refine wpQuiet_nil ?_
      rintro w6 ⟨X6,rfl⟩
      obtain ⟨T,hT⟩:∃ T,X6.w=T:=⟨_,rfl⟩
      have hb6:=X6.b
      rw [hT] at hb6 ⊢
      clear hT X6 hne
      have K6:=hidSm (K5.out.trans (hb6.mono (by have:=hb5.size;omega)))
      have Z1:=hidSm (Y1.out.keep hb6 Y1.out.x.z)
      have Z2:=hidSm (Y2.out.keep hb6 Y2.out.x.z)
      go_wp2
      go_roundw
      case rel=>exact ⟨k+1,by omega,by go_num,K6.out,Z1.out,Z2.out⟩
      case measure=>simp [intOf];omega
     case n1=>
      obtain ⟨n,rfl⟩:∃ n,m=n+1:=⟨m - 1,by omega⟩
      obtain ⟨t,ht⟩:∃ t,l[n]? =some t:=⟨_,List.getElem?_eq_getElem (by omega)⟩
      have W1:=hidSm ws
      have W2:=hidSm ws'
      clear ws ws'
      have hi1:hi≤wr.heap.size:=by omega
      have hi2:hi'≤wr.heap.size:=by omega
      have hne:=ext_ne wr
      have ua:=Ext.fit p2 pz
      have ub:=Ext.fit q2 qz
      have uc:=Ext.fit f0 hgr
      have ud:=Ext.fit f0' hgr'
      go_wp2_with fail
      refine regionExt wr (by kernel_rfl) (by kernel_rfl) ?_
      repeat (go_big_quiet_step (fail))
      refine wpQuiet_nil ?_
      rintro w5 ⟨X5,rfl⟩
      obtain ⟨U,hU⟩:∃ U,X5.w=U:=⟨_,rfl⟩
      have hb5:=X5.b
      rw [hU] at hb5 ⊢
      clear hU X5 hne ua ub uc ud
      have K5:=hidSm (HB.out.trans (hb5.mono zb))
      have Y1:=hidSm (X1.out.keep hb5 pz)
      have Y2:=hidSm (X2.out.keep hb5 qz)
      obtain ⟨ga,oa,ea,hga,fa⟩:=W1.out.val ht hi1 hb5
      obtain ⟨gb,ob,eb,hgb,fb⟩:=W2.out.val ht hi2 hb5
      subst ea eb
      clear f0 f0'
      have bn0:(0:Int)≤(n:Int):=by omega
      have bn1:(n:Int) < ((n+1:Nat):Int):=by omega
      have bn2:(n:Int) < (n:Int)+1:=by omega
      have wr1:IntKind.i64.wrap (n:Int)=n:=Go.IntWalk.i64_in _ (by omega)
      have wr2:IntKind.i64.wrap ((n:Int)+1 - 1)=n:=by rw [Int.add_sub_cancel];exact wr1
      have bn3:(0:Int) < (n:Int)+1:=by omega
      have hne:=ext_ne U
      have ue:=Ext.fit fa hga
      have uf:=Ext.fit fb hgb
      go_wp2_with fail
      refine regionExt U (by kernel_rfl) (by kernel_rfl) ?_
      repeat (go_big_quiet_step (fail))
      refine wpQuiet_nil ?_
      rintro w6 ⟨X6,rfl⟩
      obtain ⟨T,hT⟩:∃ T,X6.w=T:=⟨_,rfl⟩
      have hb6:=X6.b
      rw [hT] at hb6 ⊢
      clear hT X6 hne ue uf fa fb
      have K6:=hidSm (K5.out.trans (hb6.mono (by have:=hb5.size;omega)))
      have Z1:=hidSm (Y1.out.keep hb6 Y1.out.x.z)
      have Z2:=hidSm (Y2.out.keep hb6 Y2.out.x.z)
      go_wp2
      go_roundw
      case rel=>exact ⟨k+1,by omega,by go_num,K6.out,Z1.out,Z2.out⟩
      case measure=>simp [intOf];omega
    ·go_wp2
     go_ret
     exact ⟨rfl,HB.out⟩
end
end Go.Proofs.YtlbeploopclegaaGreat
