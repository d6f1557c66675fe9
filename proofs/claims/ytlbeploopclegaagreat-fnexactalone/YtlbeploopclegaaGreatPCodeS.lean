/- CodeOk of the specification, at every list of at most 1048576 steps. -/
import Derived.Test.YtlbeploopclegaaGreatPG00
import Derived.Test.YtlbeploopclegaaGreatPG01
import Derived.Test.YtlbeploopclegaaGreatPG06
import Derived.Test.YtlbeploopclegaaGreatPC7SpA
import Derived.Test.YtlbeploopclegaaGreatPC7Leaf
namespace Go.Proofs.YtlbeploopclegaaGreat
set_option linter.unusedSimpArgs false
set_option linter.unusedVariables false
set_option maxRecDepth 100000
open Go.RowKit
set_option maxRecDepth 100000 in
set_option maxHeartbeats 1000000 in
theorem specCode_some (g off c B : Nat) (l : List I5) (w : World) (hg : g < B) (hc : ∀ i, i < l.length → At5 w g (off + i * 5) (l.getD i z5)) (hB : B ≤ w.heap.size) (hl : l.length ≤ 1048576) :
  Calls Tryz.prog 50 #[.slice (some ⟨g,off,none⟩) l.length c] w fun e w'=>e=.returned (.bool (codeB l))∧Below w.heap.size w w':=by
 have HC:Hid (∀ i,i < l.length→At5 w g (off+i * 5) (l.getD i z5)):=hc
 clear hc
 go_enter Tryz.func50,Tryz.ntmps50
 cases h1:Plain.inB (l.length:Int) 1 800
 ·have F:Hid (codeB l=false):=code_short h1
  go_wp2_with (go_at_call 23;refine (l1In_is _ _ _ _ _ h1).mono ?_;rintro e w' ⟨rfl,rfl⟩)
  go_ret
  exact ⟨by rw [F.out];rfl,Below.refl _ _⟩
 have hlen:1≤l.length∧l.length≤800:=by simp [Plain.inB] at h1;omega
 go_wp2_with (go_at_call 23;refine (l1In_is _ _ _ _ _ h1).mono ?_;rintro e w' ⟨rfl,hw⟩;have hw':=hw.symm;clear hw;subst hw')
 clear h1
 go_loopw [4] (fun i wr=>∃ k:Nat,k≤l.length∧i=.int .i64 k∧Below w.heap.size w wr∧(∀ i,i < k→stX (l.getD i z5) l.length=true)) (fun i _=>l.length - (intOf i).toNat)
 case atStart=>exact ⟨0,Nat.zero_le _,rfl,Below.refl _ _,fun i hi=>absurd hi (Nat.not_lt_zero _)⟩
 case round=>
  obtain ⟨k,hk,rfl,hb,hd⟩:=hrel
  have HB:Hid (Below w.heap.size w wr):=hb
  have HD:Hid (∀ i,i < k→stX (l.getD i z5) l.length=true):=hd
  clear hb hd
  by_cases hlt:k < l.length
  ·obtain ⟨f0,f1,f2,f3,f4⟩:=(HC.out k hlt).keep HB.out (by omega)
   cases hv:stX (l.getD k z5) l.length
   ·have F:Hid (codeB l=false):=code_no hlt hv
    generalize l.getD k z5=x at f0 f1 f2 f3 f4 hv
    obtain ⟨xo,xr,xa,xb,xn⟩:=x
    have V:Hid (Plain.stepB xo xr xa xb xn l.length=false):=hv
    clear hv
    have b0:(0:Int)≤(k:Int):=by omega
    have b1:(k:Int) < (l.length:Int):=by omega
    go_wp2_with fail
    refine (specStepOk_any _ _ _ _ _ _ _).mono ?_
    rintro e w1 ⟨rfl,hb1⟩
    rw [V.out]
    have hs1:=HB.out.size
    go_wp2
    go_ret
    exact ⟨by rw [F.out];rfl,HB.out.trans (hb1.mono hs1)⟩
   ·have HV:Hid (stX (l.getD k z5) l.length=true):=hv
    generalize l.getD k z5=x at f0 f1 f2 f3 f4 hv
    obtain ⟨xo,xr,xa,xb,xn⟩:=x
    have V:Hid (Plain.stepB xo xr xa xb xn l.length=true):=hv
    clear hv
    have b0:(0:Int)≤(k:Int):=by omega
    have b1:(k:Int) < (l.length:Int):=by omega
    go_wp2_with fail
    refine (specStepOk_any _ _ _ _ _ _ _).mono ?_
    rintro e w1 ⟨rfl,hb1⟩
    rw [V.out]
    have hs1:=HB.out.size
    have HB1:Hid (Below wr.heap.size wr w1):=hb1
    clear hb1
    go_wp2
    go_roundw
    case rel=>
     refine ⟨k+1,by omega,by go_num,HB.out.trans (HB1.out.mono hs1),?_⟩
     intro i hi
     by_cases e:i=k
     ·subst e;exact HV.out
     ·exact HD.out i (by omega)
    case measure=>simp [intOf];omega
  ·have:k=l.length:=by omega
   subst this
   have F:Hid (codeB l=lastB l):=by
    show _=_
    rw [code_all HD.out,decide_eq_true hlen]
    simp
   obtain ⟨f0,-⟩:=(HC.out (l.length - 1) (by omega)).keep HB.out (by omega)
   generalize hx:(l.getD (l.length - 1) z5).o=x at f0
   have FX:Hid (lastB l=Plain.endB x):=by show _=_;unfold lastB;rw [hx]
   clear hx
   have b0:(1:Int)≤(l.length:Int):=by omega
   have b1:(l.length:Int) - 1 < (l.length:Int):=by omega
   by_cases x10:x=10
   ·subst x10
    go_wp2
    go_ret
    exact ⟨ret_bool (by rw [F.out,FX.out];rfl),HB.out⟩
   by_cases x12:x=12
   ·subst x12
    go_wp2
    go_ret
    exact ⟨ret_bool (by rw [F.out,FX.out];rfl),HB.out⟩
   have y10:(x==10)=false:=by simpa using x10
   have y12:(x==12)=false:=by simpa using x12
   go_wp2
   go_ret
   exact ⟨ret_bool (by rw [F.out,FX.out,Bool.eq_iff_iff];simp [Plain.endB,x10,x12]),HB.out⟩
theorem specCode_any (s : Option Addr) (c B : Nat) (l : List I5) (w : World) (h : InsB w B s l) (hB : B ≤ w.heap.size) (hl : l.length ≤ 1048576) :
  Calls Tryz.prog 50 #[.slice s l.length c] w fun e w'=>e=.returned (.bool (codeB l))∧Below w.heap.size w w':=by
 rcases h with rfl | ⟨g,off,rfl,hg,hc⟩
 ·have h1:Plain.inB ((0:Nat):Int) 1 800=false:=by decide
  have h2:Plain.inB 0 1 800=false:=by decide
  have F:Hid (codeB []=false):=code_short (l:=[]) h1
  clear h1
  go_enter Tryz.func50,Tryz.ntmps50
  go_wp2_with (go_at_call 23;refine (l1In_is _ _ _ _ _ h2).mono ?_;rintro e w' ⟨rfl,rfl⟩)
  go_ret
  exact ⟨by rw [F.out];rfl,Below.refl _ _⟩
 ·exact specCode_some g off c B l w hg hc hB hl
end Go.Proofs.YtlbeploopclegaaGreat
