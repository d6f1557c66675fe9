/- Chapter 3: ChanClose of the program and of the specification. Conditions: lists of at most 2^30 numbers. BodyOk of the specification, at every list of at most 1048576 places. BodyOk of the program, at every list of at most 1048576 places. -/
import Derived.Test.YtknffngbdakblaaGreatJG00
import Derived.Test.YtknffngbdakblaaGreatJG03
import Derived.Test.YtknffngbdakblaaGreatJG04
import Derived.Test.YtknffngbdakblaaGreatJSpecIns
import Derived.Test.YtknffngbdakblaaGreatJG01
import Derived.Test.YtknffngbdakblaaGreatJBody
import Derived.Test.YtknffngbdakblaaGreatJInsOk
namespace Go.Proofs.YtknffngbdakblaaGreat
section
set_option linter.unusedSimpArgs false
set_option linter.unusedVariables false
set_option maxRecDepth 100000
open Go.RowKit
def closeB (cap:Int) (l:List Int) (cl:Bool):Bool:=okC cap l.length||cl
def closeK (cap:Int) (l:List Int) (cl:Bool):Int:=if okC cap l.length=true∧cl=false then 0 else 2
def ClosePost (cap:Int) (l:List Int) (cl:Bool) (w:World) (e:Ending) (w':World):Prop:=
 ∃ u,e=.returned (.tuple #[.agg #[.int .i64 cap,u,.bool (closeB cap l cl)],.int .i64 (closeK cap l cl)])∧OwnN w' w.heap.size u l∧Below w.heap.size w w'∧w.heap.size < w'.heap.size
theorem close_bad {cap:Int} {l:List Int} {cl:Bool} (h:okC cap l.length=false):closeB cap l cl=cl∧closeK cap l cl=2:=by simp [closeB,closeK,h]
theorem close_twice {cap:Int} {l:List Int}:closeB cap l true=true∧closeK cap l true=2:=by simp [closeB,closeK]
theorem close_done {cap:Int} {l:List Int} (h:okC cap l.length=true):closeB cap l false=true∧closeK cap l false=0:=by simp [closeB,closeK,h]
theorem close_mk {cap : Int} {l : List Int} {cl b : Bool} {k : Int} {w : World} {e : Ending} {w' : World} (h : closeB cap l cl = b ∧ closeK cap l cl = k) (u : Value)
  (h1:e=.returned (.tuple #[.agg #[.int .i64 cap,u,.bool b],.int .i64 k])) (h2:OwnN w' w.heap.size u l) (h3:Below w.heap.size w w') (h4:w.heap.size < w'.heap.size):ClosePost cap l cl w e w':=
 ⟨u,by rw [h.1,h.2];exact h1,h2,h3,h4⟩
set_option maxHeartbeats 2000000 in
theorem implClose_any (cap:Int) (s:Option Addr) (l:List Int) (c:Nat) (cl:Bool) (w:World) (hr:RowI w w.heap.size s l) (hn:l.length≤1073741824):Calls Tryz.prog 92 #[.agg #[.int .i64 cap,.slice s l.length c,.bool cl]] w fun e w'=>ClosePost cap l cl w e w':=by
 go_enter Tryz.func92,Tryz.ntmps92
 go_wp2_with fail
 obtain ⟨W,hW,hX,K0⟩:=boxW w (.int .i64 cap) (.slice s l.length c) (.bool cl) (.int .i64 0) (.slice none 0 0) (.bool false) 65 65
 rw [hW]
 clear hW
 refine (sameChan_any cap s l c cl W ((hr.below K0).mono (by have:=hX.z;omega)) hn).mono ?_
 rintro e w1 ⟨u1,rfl,ho1,hb1,hs1⟩
 obtain ⟨s1,k1,rfl⟩:=ho1.sl
 obtain ⟨Y,hY,b1,KY,sY⟩:=box1 w1 (.int .i64 cap) (.slice s1 l.length k1) (.bool cl) 65
 have BY:=(hb1.trans (KY.mono (by omega)))
 have XY:=hX.keep (BY.mono hX.z)
 obtain ⟨c0,c1,c2,d0,d1,d2,f0,f1,z,z0,z1⟩:=hX.keep (hb1.mono hX.z)
 have HYe:=(show Hid _ from hY)
 clear hY
 have KK:=K0.trans (BY.mono (by have:=hX.z;omega))
 have HO:Hid (OwnN Y W.heap.size (.slice s1 l.length k1) l):=ho1.below KY
 have HO1:Hid (OwnN w1 W.heap.size (.slice s1 l.length k1) l):=ho1
 have hz:=hX.z
 clear hX hb1 K0 KY BY ho1
 have HY:=(show Hid _ from b1)
 have HXY:=(show Hid _ from XY)
 clear b1 XY
 go_wp2_with fail
 rw [HYe.out]
 refine (implOk_any cap s l.length c cl Y hn).mono ?_
 rintro e w2 ⟨rfl,hb2⟩
 have X2:=HXY.out.keep (hb2.mono HXY.out.z)
 have Y2:=HY.out.keep (hb2.block _ HY.out.z) hb2.size
 have K2:=KK.trans (hb2.mono (by omega))
 have O2:Hid (OwnN w2 W.heap.size (.slice s1 l.length k1) l):=HO.out.below hb2
 have hz2:=hb2.size
 clear c0 c1 c2 d0 d1 d2 f0 f1 z0 z1 HY HYe HXY HO KK hb2
 have HY:=(show Hid _ from Y2)
 obtain ⟨a0,a1,a2,af,az2⟩:=Y2
 obtain ⟨c0,c1,c2,d0,d1,d2,f0,f1,z2,z0,z1⟩:=X2
 cases hok:okC cap l.length with
 | false=>
  go_wp2_with fail
  refine bodyPost_ret (v:=.tuple #[.agg #[.int .i64 cap,.slice s1 l.length k1,.bool cl],.int .i64 2]) (by simp [results,Tryz.results92,go_sem,d0,d1,d2]) rfl ?_
  exact close_mk (close_bad hok) _ rfl (res_own O2.out hz _ _ _) (res_below K2 _ _ _) (by simp;omega)
 | true=>
  cases cl with
  | true=>
   go_wp2_with fail
   refine bodyPost_ret (v:=.tuple #[.agg #[.int .i64 cap,.slice s1 l.length k1,.bool true],.int .i64 2]) (by simp [results,Tryz.results92,go_sem,d0,d1,d2]) rfl ?_
   exact close_mk close_twice _ rfl (res_own O2.out hz _ _ _) (res_below K2 _ _ _) (by simp;omega)
  | false=>
   have n1:¬ w1.heap.size=w.heap.size+1:=by omega
   have n2:¬ w.heap.size+1=w1.heap.size:=by omega
   have hgo:∀ g cap',Value.slice s1 l.length k1=.slice (some ⟨g,0,none⟩) l.length cap'→g < w1.heap.size:=by
    intro g cap' e
    by_cases h0:l.length=0
    ·rcases HO1.out.2 with ⟨h1,-⟩ | ⟨g',c',cur,hv,hb',hg',-⟩
     ·rw [h1] at e;cases e
     ·rw [hv] at e
      have:=(Array.getElem?_eq_some_iff.1 hg').1
      injection e with e1;injection e1 with e1;injection e1 with e1;omega
    ·obtain ⟨g',c',hv,-,hlt⟩:=HO1.out.lt (by omega)
     rw [hv] at e
     injection e with e1;injection e1 with e1;injection e1 with e1;omega
   go_wp2_with fail
   refine bodyPost_ret (v:=.tuple #[.agg #[.int .i64 cap,.slice s1 l.length k1,.bool true],.int .i64 0]) (by simp [results,Tryz.results92,go_sem,d0,d1,d2]) rfl ?_
   exact close_mk (close_done hok) _ rfl (res_own (O2.out.off (a:=⟨w1.heap.size,2,none⟩) (fun g cap' e=>by have:=hgo g cap' e;simp;omega) _) hz _ _ _) (res_below (K2.setCell (p:=⟨w1.heap.size,2,none⟩) (by simp;omega) _) _ _ _) (by simp;omega)
set_option maxHeartbeats 2000000 in
theorem specClose_any (cap:Int) (s:Option Addr) (l:List Int) (c:Nat) (cl:Bool) (w:World) (hr:RowI w w.heap.size s l) (hn:l.length≤1073741824):Calls Tryz.prog 94 #[.agg #[.int .i64 cap,.slice s l.length c,.bool cl]] w fun e w'=>ClosePost cap l cl w e w':=by
 cases cl with
 | true=>
  go_enter Tryz.func94,Tryz.ntmps94
  go_wp2_with fail
  obtain ⟨W,hW,hX,K0⟩:=boxW w (.int .i64 cap) (.slice s l.length c) (.bool true) (.int .i64 0) (.slice none 0 0) (.bool false) 65 65
  rw [hW]
  clear hW
  refine (l3Copy_any cap s l c true W ((hr.below K0).mono (by have:=hX.z;omega)) hn).mono ?_
  rintro e w1 ⟨u1,rfl,ho1,hb1,hs1⟩
  obtain ⟨s1,k1,rfl⟩:=ho1.sl
  obtain ⟨Y,hY,b1,KY,sY⟩:=box1 w1 (.int .i64 cap) (.slice s1 l.length k1) (.bool true) 65
  have BY:=(hb1.trans (KY.mono (by omega)))
  have XY:=hX.keep (BY.mono hX.z)
  have KK:=K0.trans (BY.mono (by have:=hX.z;omega))
  have HO:Hid (OwnN Y W.heap.size (.slice s1 l.length k1) l):=ho1.below KY
  have HO1:Hid (OwnN w1 W.heap.size (.slice s1 l.length k1) l):=ho1
  have hz:=hX.z
  clear hX hb1 K0 KY BY ho1
  obtain ⟨a0,a1,a2,af,az2⟩:=b1
  obtain ⟨c0,c1,c2,d0,d1,d2,f0,f1,z2,z0,z1⟩:=XY
  go_wp2_with fail
  refine bodyPost_ret (v:=.tuple #[.agg #[.int .i64 cap,.slice s1 l.length k1,.bool true],.int .i64 2]) (by simp [results,Tryz.results94,go_sem,d0,d1,d2]) rfl ?_
  exact close_mk close_twice _ rfl (res_own HO.out hz _ _ _) (res_below KK _ _ _) (by simp;omega)
 | false=>
  go_enter Tryz.func94,Tryz.ntmps94
  go_wp2_with fail
  obtain ⟨W,hW,hX,K0⟩:=boxW w (.int .i64 cap) (.slice s l.length c) (.bool false) (.int .i64 0) (.slice none 0 0) (.bool false) 65 65
  rw [hW]
  clear hW
  refine (l3Copy_any cap s l c false W ((hr.below K0).mono (by have:=hX.z;omega)) hn).mono ?_
  rintro e w1 ⟨u1,rfl,ho1,hb1,hs1⟩
  obtain ⟨s1,k1,rfl⟩:=ho1.sl
  obtain ⟨Y,hY,b1,KY,sY⟩:=box1 w1 (.int .i64 cap) (.slice s1 l.length k1) (.bool false) 65
  have BY:=(hb1.trans (KY.mono (by omega)))
  have XY:=hX.keep (BY.mono hX.z)
  obtain ⟨c0,c1,c2,d0,d1,d2,f0,f1,z,z0,z1⟩:=hX.keep (hb1.mono hX.z)
  have HYe:=(show Hid _ from hY)
  clear hY
  have KK:=K0.trans (BY.mono (by have:=hX.z;omega))
  have HO:Hid (OwnN Y W.heap.size (.slice s1 l.length k1) l):=ho1.below KY
  have HO1:Hid (OwnN w1 W.heap.size (.slice s1 l.length k1) l):=ho1
  have hz:=hX.z
  clear hX hb1 K0 KY BY ho1
  have HY:=(show Hid _ from b1)
  have HXY:=(show Hid _ from XY)
  clear b1 XY
  go_wp2_with fail
  rw [HYe.out]
  refine (specOk_any cap s l.length c false Y hn).mono ?_
  rintro e w2 ⟨rfl,hb2⟩
  have X2:=HXY.out.keep (hb2.mono HXY.out.z)
  have Y2:=HY.out.keep (hb2.block _ HY.out.z) hb2.size
  have K2:=KK.trans (hb2.mono (by omega))
  have O2:Hid (OwnN w2 W.heap.size (.slice s1 l.length k1) l):=HO.out.below hb2
  have hz2:=hb2.size
  clear c0 c1 c2 d0 d1 d2 f0 f1 z0 z1 HY HYe HXY HO KK hb2
  have HY:=(show Hid _ from Y2)
  obtain ⟨a0,a1,a2,af,az2⟩:=Y2
  obtain ⟨c0,c1,c2,d0,d1,d2,f0,f1,z2,z0,z1⟩:=X2
  cases hok:okC cap l.length with
  | false=>
   go_wp2_with fail
   refine bodyPost_ret (v:=.tuple #[.agg #[.int .i64 cap,.slice s1 l.length k1,.bool false],.int .i64 2]) (by simp [results,Tryz.results94,go_sem,d0,d1,d2]) rfl ?_
   exact close_mk (close_bad hok) _ rfl (res_own O2.out hz _ _ _) (res_below K2 _ _ _) (by simp;omega)
  | true=>
   have n1:¬ w1.heap.size=w.heap.size+1:=by omega
   have n2:¬ w.heap.size+1=w1.heap.size:=by omega
   have hgo:∀ g cap',Value.slice s1 l.length k1=.slice (some ⟨g,0,none⟩) l.length cap'→g < w1.heap.size:=by
    intro g cap' e
    by_cases h0:l.length=0
    ·rcases HO1.out.2 with ⟨h1,-⟩ | ⟨g',c',cur,hv,hb',hg',-⟩
     ·rw [h1] at e;cases e
     ·rw [hv] at e
      have:=(Array.getElem?_eq_some_iff.1 hg').1
      injection e with e1;injection e1 with e1;injection e1 with e1;omega
    ·obtain ⟨g',c',hv,-,hlt⟩:=HO1.out.lt (by omega)
     rw [hv] at e
     injection e with e1;injection e1 with e1;injection e1 with e1;omega
   go_wp2_with fail
   refine bodyPost_ret (v:=.tuple #[.agg #[.int .i64 cap,.slice s1 l.length k1,.bool true],.int .i64 0]) (by simp [results,Tryz.results94,go_sem,d0,d1,d2]) rfl ?_
   exact close_mk (close_done hok) _ rfl (res_own (O2.out.off (a:=⟨w1.heap.size,2,none⟩) (fun g cap' e=>by have:=hgo g cap' e;simp;omega) _) hz _ _ _) (res_below (K2.setCell (p:=⟨w1.heap.size,2,none⟩) (by simp;omega) _) _ _ _) (by simp;omega)
end
section
set_option linter.unusedSimpArgs false
set_option linter.unusedVariables false
set_option maxRecDepth 100000
open Go.RowKit
theorem body_short {l:List I5} {ch:Int} (h:Plain.inB (l.length:Int) 1 24=false):bodyB l ch=false:=by
 have:decide (1≤l.length∧l.length≤24)=false:=by
  rw [decide_eq_false_iff_not]
  simp [Plain.inB] at h
  omega
 unfold bodyB
 rw [this]
 simp
theorem body_chans {l:List I5} {ch:Int} (h:Plain.inB ch 0 3=false):bodyB l ch=false:=by
 have:Plain.chansB ch=false:=h
 unfold bodyB
 rw [this]
 simp
set_option maxRecDepth 100000 in
set_option maxHeartbeats 1000000 in
theorem specBody_some (g off c B : Nat) (l : List I5) (ch : Int) (w : World) (hg : g < B) (hc : ∀ i, i < l.length → At5 w g (off + i * 5) (l.getD i z5)) (hB : B ≤ w.heap.size) (hl : l.length ≤ 1048576) :
  Calls Tryz.prog 55 #[.slice (some ⟨g,off,none⟩) l.length c,.int .i64 ch] w fun e w'=>e=.returned (.bool (bodyB l ch))∧Below w.heap.size w w':=by
 have HC:Hid (∀ i,i < l.length→At5 w g (off+i * 5) (l.getD i z5)):=hc
 clear hc
 go_enter Tryz.func55,Tryz.ntmps55
 go_wp2
 go_loopw [6] (fun i wr=>∃ k:Nat,k≤l.length∧i=.int .i64 k∧Below w.heap.size w wr∧(∀ i,i < k→insX (l.getD i z5) l.length ch=true)) (fun i _=>l.length - (intOf i).toNat)
 case atStart=>exact ⟨0,Nat.zero_le _,rfl,Below.refl _ _,fun i hi=>absurd hi (Nat.not_lt_zero _)⟩
 case round=>
  obtain ⟨k,hk,rfl,hb,hd⟩:=hrel
  have HB:Hid (Below w.heap.size w wr):=hb
  have HD:Hid (∀ i,i < k→insX (l.getD i z5) l.length ch=true):=hd
  clear hb hd
  by_cases hlt:k < l.length
  ·obtain ⟨f0,f1,f2,f3,f4⟩:=(HC.out k hlt).keep HB.out (by omega)
   cases hv:insX (l.getD k z5) l.length ch
   ·have F:Hid (bodyB l ch=false):=body_no hlt hv
    generalize l.getD k z5=x at f0 f1 f2 f3 f4 hv
    obtain ⟨xo,xr,xa,xb,xn⟩:=x
    have V:Hid (Plain.insB xo xr xa xb xn l.length ch=false):=hv
    clear hv
    have b0:(0:Int)≤(k:Int):=by omega
    have b1:(k:Int) < (l.length:Int):=by omega
    go_wp2_with fail
    refine (specInsOk_any _ _ _ _ _ _ _ _).mono ?_
    rintro e w1 ⟨rfl,hb1⟩
    rw [V.out]
    have hs1:=HB.out.size
    go_wp2
    go_ret
    exact ⟨by rw [F.out];rfl,HB.out.trans (hb1.mono hs1)⟩
   ·have HV:Hid (insX (l.getD k z5) l.length ch=true):=hv
    generalize l.getD k z5=x at f0 f1 f2 f3 f4 hv
    obtain ⟨xo,xr,xa,xb,xn⟩:=x
    have V:Hid (Plain.insB xo xr xa xb xn l.length ch=true):=hv
    clear hv
    have b0:(0:Int)≤(k:Int):=by omega
    have b1:(k:Int) < (l.length:Int):=by omega
    go_wp2_with fail
    refine (specInsOk_any _ _ _ _ _ _ _ _).mono ?_
    rintro e w1 ⟨rfl,hb1⟩
    rw [V.out]
    have hs1:=HB.out.size
    have HB1:Hid (Below wr.heap.size wr w1):=hb1
    clear hb1
    go_wp2
    go_roundw
    case rel=>
     refine ⟨k+1,by omega,by go_num,HB.out.trans (HB1.out.mono hs1),?_⟩
     intro i hi
     by_cases e:i=k
     ·subst e;exact HV.out
     ·exact HD.out i (by omega)
    case measure=>simp [intOf];omega
  ·have:k=l.length:=by omega
   subst this
   cases h1:Plain.inB (l.length:Int) 1 24
   ·have F:Hid (bodyB l ch=false):=body_short h1
    go_wp2_with (go_at_call 34;refine (l1In_any _ _ _ _).mono ?_;rintro e w' ⟨rfl,rfl⟩)
    go_ret
    exact ⟨by rw [F.out];rfl,HB.out⟩
   ·cases h2:Plain.inB ch 0 3
    ·have F:Hid (bodyB l ch=false):=body_chans h2
     go_wp2_with (go_at_call 34;refine (l1In_any _ _ _ _).mono ?_;rintro e w' ⟨rfl,rfl⟩)
     go_ret
     exact ⟨by rw [F.out];rfl,HB.out⟩
    ·have hlen:1≤l.length∧l.length≤24:=by simp [Plain.inB] at h1;omega
     have F:Hid (bodyB l ch=lastB l):=by
      show _=_
      rw [body_all HD.out,decide_eq_true hlen,(show Plain.chansB ch=true from h2)]
      simp
     obtain ⟨f0,-⟩:=(HC.out (l.length - 1) (by omega)).keep HB.out (by omega)
     generalize hx:(l.getD (l.length - 1) z5).o=x at f0
     have FX:Hid (lastB l=decide (x=13∨x=11)):=by show _=_;unfold lastB;rw [hx]
     clear hx
     have b0:(1:Int)≤(l.length:Int):=by omega
     have b1:(l.length:Int) - 1 < (l.length:Int):=by omega
     go_wp2_with (go_at_call 34;refine (l1In_any _ _ _ _).mono ?_;rintro e w' ⟨rfl,rfl⟩)
     all_goals
      go_ret
      refine ⟨ret_bool ?_,HB.out⟩
      rw [F.out,FX.out,Bool.eq_iff_iff]
      simp [*]
theorem specBody_any (s : Option Addr) (c B : Nat) (l : List I5) (ch : Int) (w : World) (h : InsB w B s l) (hB : B ≤ w.heap.size) (hl : l.length ≤ 1048576) :
  Calls Tryz.prog 55 #[.slice s l.length c,.int .i64 ch] w fun e w'=>e=.returned (.bool (bodyB l ch))∧Below w.heap.size w w':=by
 rcases h with rfl | ⟨g,off,rfl,hg,hc⟩
 ·have h1:Plain.inB ((0:Nat):Int) 1 24=false:=by decide
  have h2:Plain.inB 0 1 24=false:=by decide
  have F:Hid (bodyB [] ch=false):=body_short (l:=[]) h1
  clear h1
  go_enter Tryz.func55,Tryz.ntmps55
  go_wp2
  go_loop [6] (fun i=>i=.int .i64 0) (fun _=>0)
  case atStart=>rfl
  case round=>
   subst hrel
   go_wp2_with (go_at_call 34;refine (l1In_any _ _ _ _).mono ?_;rintro e w' ⟨rfl,rfl⟩)
   go_ret
   exact ⟨by rw [F.out];rfl,Below.refl _ _⟩
 ·exact specBody_some g off c B l ch w hg hc hB hl
end
section
set_option linter.unusedSimpArgs false
set_option linter.unusedVariables false
set_option maxRecDepth 100000
open Go.RowKit
theorem endsBody_any (o r a b n:Int) (w:World):Calls Tryz.prog 86 #[.agg #[.int .i64 o,.int .i64 r,.int .i64 a,.int .i64 b,.int .i64 n]] w fun e w'=>e=.returned (.bool (decide (o=13∨o=11)))∧Below w.heap.size w w':=by
 by_cases h1:o=13
 ·subst h1
  go_enter Tryz.func86,Tryz.ntmps86
  go_wp2
  go_ret
  exact ⟨rfl,(Below.refl _ _).alloc (Nat.le_refl _) _⟩
 ·have h2:(o==13)=false:=by simp [h1]
  go_enter Tryz.func86,Tryz.ntmps86
  go_wp2
  go_ret
  exact ⟨ret_bool (by rw [Bool.eq_iff_iff];simp [h1]),(Below.refl _ _).alloc (Nat.le_refl _) _⟩
set_option maxRecDepth 100000 in
set_option maxHeartbeats 1000000 in
theorem implBody_some (g off c B : Nat) (l : List I5) (ch : Int) (w : World) (hg : g < B) (hc : ∀ i, i < l.length → At5 w g (off + i * 5) (l.getD i z5)) (hB : B ≤ w.heap.size) (h1 : Plain.chansB ch = true) (hl1 : 1 ≤ l.length) (hl : l.length ≤ 24) :
  Calls Tryz.prog 62 #[.slice (some ⟨g,off,none⟩) l.length c,.int .i64 ch] w fun e w'=>e=.returned (.bool (bodyB l ch))∧Below w.heap.size w w':=by
 have HC:Hid (∀ i,i < l.length→At5 w g (off+i * 5) (l.getD i z5)):=hc
 clear hc
 have q1:¬ (l.length:Int) < 1:=by omega
 have q2:¬ 24 < (l.length:Int):=by omega
 go_enter Tryz.func62,Tryz.ntmps62
 go_wp2_with (go_at_call 83;refine (areChans_is _ true _ h1).mono ?_;rintro e w' ⟨rfl,hw⟩;have hw':=hw.symm;clear hw;subst hw')
 go_loopw [22] (fun i wr=>∃ k:Nat,k≤l.length∧i=.int .i64 k∧Below w.heap.size w wr∧(∀ i,i < k→insX (l.getD i z5) l.length ch=true)) (fun i _=>l.length - (intOf i).toNat)
 case atStart=>exact ⟨0,Nat.zero_le _,rfl,Below.refl _ _,fun i hi=>absurd hi (Nat.not_lt_zero _)⟩
 case round=>
  obtain ⟨k,hk,rfl,hb,hd⟩:=hrel
  have HB:Hid (Below w.heap.size w wr):=hb
  have HD:Hid (∀ i,i < k→insX (l.getD i z5) l.length ch=true):=hd
  clear hb hd
  by_cases hlt:k < l.length
  ·obtain ⟨f0,f1,f2,f3,f4⟩:=(HC.out k hlt).keep HB.out (by omega)
   cases hv:insX (l.getD k z5) l.length ch
   ·have F:Hid (bodyB l ch=false):=body_no hlt hv
    generalize l.getD k z5=x at f0 f1 f2 f3 f4 hv
    obtain ⟨xo,xr,xa,xb,xn⟩:=x
    have V:Hid (Plain.insB xo xr xa xb xn l.length ch=false):=hv
    clear hv
    have b0:(0:Int)≤(k:Int):=by omega
    have b1:(k:Int) < (l.length:Int):=by omega
    go_wp2_with fail
    refine (insOk_any _ _ _ _ _ _ _ _).mono ?_
    rintro e w1 ⟨rfl,hb1⟩
    rw [V.out]
    have hs1:=HB.out.size
    go_wp2
    go_ret
    exact ⟨by rw [F.out];rfl,(HB.out.alloc hs1 _).trans (hb1.mono (by simp;omega))⟩
   ·have HV:Hid (insX (l.getD k z5) l.length ch=true):=hv
    generalize l.getD k z5=x at f0 f1 f2 f3 f4 hv
    obtain ⟨xo,xr,xa,xb,xn⟩:=x
    have V:Hid (Plain.insB xo xr xa xb xn l.length ch=true):=hv
    clear hv
    have b0:(0:Int)≤(k:Int):=by omega
    have b1:(k:Int) < (l.length:Int):=by omega
    go_wp2_with fail
    refine (insOk_any _ _ _ _ _ _ _ _).mono ?_
    rintro e w1 ⟨rfl,hb1⟩
    rw [V.out]
    have hs1:=HB.out.size
    have HB1:Hid (Below w.heap.size w w1):=(HB.out.alloc hs1 _).trans (hb1.mono (by simp;omega))
    clear hb1
    go_wp2
    go_roundw
    case rel=>
     refine ⟨k+1,by omega,by go_num,HB1.out,?_⟩
     intro i hi
     by_cases e:i=k
     ·subst e;exact HV.out
     ·exact HD.out i (by omega)
    case measure=>simp [intOf];omega
  ·have:k=l.length:=by omega
   subst this
   have F:Hid (bodyB l ch=lastB l):=by
    show _=_
    rw [body_all HD.out,decide_eq_true ⟨hl1,hl⟩,h1]
    simp
   obtain ⟨f0,f1,f2,f3,f4⟩:=(HC.out (l.length - 1) (by omega)).keep HB.out (by omega)
   generalize hx:l.getD (l.length - 1) z5=x at f0 f1 f2 f3 f4
   have FX:Hid (lastB l=decide (x.o=13∨x.o=11)):=by show _=_;unfold lastB;rw [hx]
   clear hx
   obtain ⟨xo,xr,xa,xb,xn⟩:=x
   have b0:(1:Int)≤(l.length:Int):=by omega
   have b1:(l.length:Int) - 1 < (l.length:Int):=by omega
   go_wp2_with fail
   refine (endsBody_any _ _ _ _ _ _).mono ?_
   rintro e w1 ⟨rfl,hb1⟩
   have hs1:=HB.out.size
   go_wp2
   go_ret
   exact ⟨ret_bool (by rw [F.out,FX.out];simp),HB.out.trans (hb1.mono hs1)⟩
set_option maxRecDepth 100000 in
theorem implBody_bad (s : Option Addr) (n c : Nat) (ch : Int) (w : World) (hn : n ≤ 1048576) (h : Plain.chansB ch = false ∨ n < 1 ∨ 24 < n) :
  Calls Tryz.prog 62 #[.slice s n c,.int .i64 ch] w fun e w'=>e=.returned (.bool false)∧w'=w:=by
 cases h1:Plain.chansB ch
 ·go_enter Tryz.func62,Tryz.ntmps62
  go_wp2_with (go_at_call 83;refine (areChans_is _ false _ h1).mono ?_;rintro e w' ⟨rfl,rfl⟩)
  go_ret
  exact ⟨rfl,rfl⟩
 ·have h':n < 1∨24 < n:=by
   rcases h with h | h
   ·rw [h1] at h;cases h
   ·exact h
  clear h
  by_cases h2:n < 1
  ·have q1:(n:Int) < 1:=by omega
   clear h' h2
   go_enter Tryz.func62,Tryz.ntmps62
   go_wp2_with (go_at_call 83;refine (areChans_is _ true _ h1).mono ?_;rintro e w' ⟨rfl,rfl⟩)
   go_ret
   exact ⟨rfl,rfl⟩
  ·have q1:¬ (n:Int) < 1:=by omega
   have q2:24 < (n:Int):=by omega
   clear h' h2
   go_enter Tryz.func62,Tryz.ntmps62
   go_wp2_with (go_at_call 83;refine (areChans_is _ true _ h1).mono ?_;rintro e w' ⟨rfl,rfl⟩)
   go_ret
   exact ⟨rfl,rfl⟩
theorem implBody_any (s : Option Addr) (c B : Nat) (l : List I5) (ch : Int) (w : World) (h : InsB w B s l) (hB : B ≤ w.heap.size) (hl : l.length ≤ 1048576) :
  Calls Tryz.prog 62 #[.slice s l.length c,.int .i64 ch] w fun e w'=>e=.returned (.bool (bodyB l ch))∧Below w.heap.size w w':=by
 by_cases hd:Plain.chansB ch=true∧1≤l.length∧l.length≤24
 ·obtain ⟨h1,h2,h3⟩:=hd
  rcases h with rfl | ⟨g,off,rfl,hg,hc⟩
  ·simp at h2
  ·exact implBody_some g off c B l ch w hg hc hB h1 h2 h3
 ·have hd':Plain.chansB ch=false∨l.length < 1∨24 < l.length:=by
   cases hq:Plain.chansB ch
   ·exact .inl rfl
   ·right
    have:¬ (1≤l.length∧l.length≤24):=fun hh=>hd ⟨hq,hh⟩
    omega
  have F:bodyB l ch=false:=by
   rcases hd' with h | h
   ·exact body_chans h
   ·refine body_short ?_
    simp [Plain.inB]
    omega
  rw [F]
  refine (implBody_bad s l.length c ch w hl hd').mono ?_
  rintro e w' ⟨rfl,rfl⟩
  exact ⟨rfl,Below.refl _ _⟩
end
end Go.Proofs.YtknffngbdakblaaGreat
