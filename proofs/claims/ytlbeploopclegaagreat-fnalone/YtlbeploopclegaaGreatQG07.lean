/- StepOk of the specification (package spec), at every step and every count of places, in every world: it returns what the plain law says; it makes memory, and turns none. No condition. Lists of steps: when code is right; the laws' counting and comparing of lists. Conditions: lists of at most 1048576 steps where they are compared. CodeOk of the program, at every list of at most 1048576 steps. -/
import Derived.Test.YtlbeploopclegaaGreatQG00
import Derived.Test.YtlbeploopclegaaGreatQC7SpA
import Derived.Test.YtlbeploopclegaaGreatQC7SpB
import Derived.Test.YtlbeploopclegaaGreatQC7SpC
import Derived.Test.YtlbeploopclegaaGreatQC7SpD
import Derived.Test.YtlbeploopclegaaGreatQC7SpE
import Derived.Test.YtlbeploopclegaaGreatQG01
import Derived.Test.YtlbeploopclegaaGreatQG06
import Derived.Deep.RegionHeld3
import Derived.Test.YtlbeploopclegaaGreatQC7Ok
import Derived.Test.YtlbeploopclegaaGreatQC7Leaf
namespace Go.Proofs.YtlbeploopclegaaGreat
section
set_option linter.unusedSimpArgs false
set_option linter.unusedVariables false
set_option maxRecDepth 100000
open Go.RowKit
theorem specStepOk_any (op r a b n pl:Int) (w:World):Calls Tryz.prog 83 #[.agg #[.int .i64 op,.int .i64 r,.int .i64 a,.int .i64 b,.int .i64 n],.int .i64 pl] w fun e w'=>e=.returned (.bool (Plain.stepB op r a b n pl))∧Below w.heap.size w w':=by
 have no:∀ {e:Ending} {w':World},Plain.stepB op r a b n pl=false→e=.returned (.bool false)∧Below w.heap.size w w'→e=.returned (.bool (Plain.stepB op r a b n pl))∧Below w.heap.size w w':=fun h h'=>by rw [h];exact h'
 by_cases e5:op=5
 ·subst e5
  cases h1:Plain.inB r 0 7
  ·exact (specBadR_5 r a b n pl w h1).mono fun e w' h=>no (by simp [Plain.inB] at h1;simp [Plain.stepB];omega) h
  cases h2:Plain.inB b 0 7
  ·exact (specBadB_5 r a b n pl w h1 h2).mono fun e w' h=>no (by simp [Plain.inB] at h2;simp [Plain.stepB];omega) h
  cases h3:Plain.inB a 0 7
  ·by_cases h4:a=-1
   ·subst h4
    exact specGood_5m r b n pl w h1 h2
   ·exact (specBadA_5 r a b n pl w h1 h2 h3 (by simpa using h4)).mono fun e w' h=>no (by simp [Plain.inB] at h3;simp [Plain.stepB];omega) h
  ·exact specGood_5 r a b n pl w h1 h2 h3
 by_cases e6:op=6
 ·subst e6
  cases h1:Plain.inB r 0 7
  ·exact (specBadR_6 r a b n pl w h1).mono fun e w' h=>no (by simp [Plain.inB] at h1;simp [Plain.stepB];omega) h
  cases h2:Plain.inB b 0 7
  ·exact (specBadB_6 r a b n pl w h1 h2).mono fun e w' h=>no (by simp [Plain.inB] at h2;simp [Plain.stepB];omega) h
  cases h3:Plain.inB a 0 7
  ·by_cases h4:a=-1
   ·subst h4
    exact specGood_6m r b n pl w h1 h2
   ·exact (specBadA_6 r a b n pl w h1 h2 h3 (by simpa using h4)).mono fun e w' h=>no (by simp [Plain.inB] at h3;simp [Plain.stepB];omega) h
  ·exact specGood_6 r a b n pl w h1 h2 h3
 by_cases e7:op=7
 ·subst e7
  cases h1:Plain.inB r 0 7
  ·exact (specBadR_7 r a b n pl w h1).mono fun e w' h=>no (by simp [Plain.inB] at h1;simp [Plain.stepB];omega) h
  cases h2:Plain.inB b 0 7
  ·exact (specBadB_7 r a b n pl w h1 h2).mono fun e w' h=>no (by simp [Plain.inB] at h2;simp [Plain.stepB];omega) h
  cases h3:Plain.inB a 0 7
  ·by_cases h4:a=-1
   ·subst h4
    exact specGood_7m r b n pl w h1 h2
   ·exact (specBadA_7 r a b n pl w h1 h2 h3 (by simpa using h4)).mono fun e w' h=>no (by simp [Plain.inB] at h3;simp [Plain.stepB];omega) h
  ·exact specGood_7 r a b n pl w h1 h2 h3
 have o5:(op==5)=false:=by simpa using e5
 have o6:(op==6)=false:=by simpa using e6
 have o7:(op==7)=false:=by simpa using e7
 cases h1:Plain.inB r 0 7
 ·exact (specBadR_x op r a b n pl w o5 o6 o7 h1).mono fun e w' h=>no (by simp [Plain.inB] at h1;simp [Plain.stepB];omega) h
 cases h2:Plain.inB b 0 7
 ·exact (specBadB_x op r a b n pl w o5 o6 o7 h1 h2).mono fun e w' h=>no (by simp [Plain.inB] at h2;simp [Plain.stepB];omega) h
 cases h3:Plain.inB a 0 7
 ·exact (specBadA_x op r a b n pl w o5 o6 o7 h1 h2 h3).mono fun e w' h=>no (by simp [Plain.inB] at h3;simp [Plain.stepB];omega) h
 by_cases e1:op=1
 ·subst e1;exact specGood_1 r a b n pl w h1 h2 h3
 by_cases e2:op=2
 ·subst e2;exact specGood_2 r a b n pl w h1 h2 h3
 by_cases e3:op=3
 ·subst e3;exact specGood_3 r a b n pl w h1 h2 h3
 by_cases e4:op=4
 ·subst e4;exact specGood_4 r a b n pl w h1 h2 h3
 by_cases e8:op=8
 ·subst e8;exact specGood_8 r a b n pl w h1 h2 h3
 by_cases e9:op=9
 ·subst e9;exact specGood_9 r a b n pl w h1 h2 h3
 by_cases e10:op=10
 ·subst e10;exact specGood_10 r a b n pl w h1 h2 h3
 by_cases e11:op=11
 ·subst e11;exact specGood_11 r a b n pl w h1 h2 h3
 by_cases e12:op=12
 ·subst e12;exact specGood_12 r a b n pl w h1 h2 h3
 by_cases e13:op=13
 ·subst e13;exact specGood_13 r a b n pl w h1 h2 h3
 exact specGood_0 op r a b n pl w (by simpa using e1) (by simpa using e2) (by simpa using e3) (by simpa using e4) (by simpa using e5) (by simpa using e6) (by simpa using e7) (by simpa using e8) (by simpa using e9) (by simpa using e10) (by simpa using e11) (by simpa using e12) (by simpa using e13) h1 h2 h3
end
section
set_option linter.unusedSimpArgs false
set_option linter.unusedVariables false
set_option maxRecDepth 100000
open Go.RowKit
def stX (x:I5) (pl:Int):Bool:=Plain.stepB x.o x.r x.a x.b x.n pl
def lastB (l:List I5):Bool:=Plain.endB (l.getD (l.length - 1) z5).o
def codeB (l:List I5):Bool:=decide (∀ i,i < l.length→stX (l.getD i z5) l.length=true)&&(decide (1≤l.length∧l.length≤800)&&lastB l)
theorem code_no {l:List I5} {k:Nat} (hk:k < l.length) (h:stX (l.getD k z5) l.length=false):codeB l=false:=by
 have:decide (∀ i,i < l.length→stX (l.getD i z5) l.length=true)=false:=by
  rw [decide_eq_false_iff_not]
  intro H
  rw [H k hk] at h
  cases h
 unfold codeB
 rw [this]
 rfl
theorem code_all {l:List I5} (h:∀ i,i < l.length→stX (l.getD i z5) l.length=true):codeB l=(decide (1≤l.length∧l.length≤800)&&lastB l):=by
 unfold codeB
 rw [decide_eq_true h]
 simp
theorem code_short {l:List I5} (h:Plain.inB (l.length:Int) 1 800=false):codeB l=false:=by
 have:decide (1≤l.length∧l.length≤800)=false:=by
  rw [decide_eq_false_iff_not]
  simp [Plain.inB] at h
  omega
 unfold codeB
 rw [this]
 simp
end
section
set_option linter.unusedSimpArgs false
set_option linter.unusedVariables false
set_option maxRecDepth 100000
open Go.RowKit
theorem endsCode_any (o r a b n:Int) (w:World):Calls Tryz.prog 112 #[.agg #[.int .i64 o,.int .i64 r,.int .i64 a,.int .i64 b,.int .i64 n]] w fun e w'=>e=.returned (.bool (Plain.endB o))∧Below w.heap.size w w':=by
 by_cases h1:o=10
 ·subst h1
  go_enter Tryz.func112,Tryz.ntmps112
  go_wp2
  go_ret
  exact ⟨rfl,(Below.refl _ _).alloc (Nat.le_refl _) _⟩
 have h2:(o==10)=false:=by simp [h1]
 by_cases h3:o=12
 ·subst h3
  go_enter Tryz.func112,Tryz.ntmps112
  go_wp2
  go_ret
  exact ⟨rfl,(Below.refl _ _).alloc (Nat.le_refl _) _⟩
 have h4:(o==12)=false:=by simp [h3]
 go_enter Tryz.func112,Tryz.ntmps112
 go_wp2
 go_ret
 exact ⟨ret_bool (by rw [Bool.eq_iff_iff];simp [Plain.endB,h1,h3]),(Below.refl _ _).alloc (Nat.le_refl _) _⟩
set_option maxRecDepth 100000 in
set_option maxHeartbeats 1000000 in
theorem implCode_some (g off c B : Nat) (l : List I5) (w : World) (hg : g < B) (hc : ∀ i, i < l.length → At5 w g (off + i * 5) (l.getD i z5)) (hB : B ≤ w.heap.size) (hl1 : 1 ≤ l.length) (hl : l.length ≤ 800) :
  Calls Tryz.prog 84 #[.slice (some ⟨g,off,none⟩) l.length c] w fun e w'=>e=.returned (.bool (codeB l))∧Below w.heap.size w w':=by
 have HC:Hid (∀ i,i < l.length→At5 w g (off+i * 5) (l.getD i z5)):=hc
 clear hc
 have q1:¬ (l.length:Int) < 1:=by omega
 have q2:¬ 800 < (l.length:Int):=by omega
 go_enter Tryz.func84,Tryz.ntmps84
 go_wp2
 go_loopw [15] (fun i wr=>∃ k:Nat,k≤l.length∧i=.int .i64 k∧Below w.heap.size w wr∧(∀ i,i < k→stX (l.getD i z5) l.length=true)) (fun i _=>l.length - (intOf i).toNat)
 case atStart=>exact ⟨0,Nat.zero_le _,rfl,Below.refl _ _,fun i hi=>absurd hi (Nat.not_lt_zero _)⟩
 case round=>
  obtain ⟨k,hk,rfl,hb,hd⟩:=hrel
  have HB:Hid (Below w.heap.size w wr):=hb
  have HD:Hid (∀ i,i < k→stX (l.getD i z5) l.length=true):=hd
  clear hb hd
  by_cases hlt:k < l.length
  ·obtain ⟨f0,f1,f2,f3,f4⟩:=(HC.out k hlt).keep HB.out (by omega)
   cases hv:stX (l.getD k z5) l.length
   ·have F:Hid (codeB l=false):=code_no hlt hv
    generalize l.getD k z5=x at f0 f1 f2 f3 f4 hv
    obtain ⟨xo,xr,xa,xb,xn⟩:=x
    have V:Hid (Plain.stepB xo xr xa xb xn l.length=false):=hv
    clear hv
    have b0:(0:Int)≤(k:Int):=by omega
    have b1:(k:Int) < (l.length:Int):=by omega
    go_wp2_with fail
    refine (stepOk_any _ _ _ _ _ _ _).mono ?_
    rintro e w1 ⟨rfl,hb1⟩
    rw [V.out]
    have hs1:=HB.out.size
    go_wp2
    go_ret
    exact ⟨by rw [F.out];rfl,(HB.out.alloc hs1 _).trans (hb1.mono (by simp;omega))⟩
   ·have HV:Hid (stX (l.getD k z5) l.length=true):=hv
    generalize l.getD k z5=x at f0 f1 f2 f3 f4 hv
    obtain ⟨xo,xr,xa,xb,xn⟩:=x
    have V:Hid (Plain.stepB xo xr xa xb xn l.length=true):=hv
    clear hv
    have b0:(0:Int)≤(k:Int):=by omega
    have b1:(k:Int) < (l.length:Int):=by omega
    go_wp2_with fail
    refine (stepOk_any _ _ _ _ _ _ _).mono ?_
    rintro e w1 ⟨rfl,hb1⟩
    rw [V.out]
    have hs1:=HB.out.size
    have HB1:Hid (Below w.heap.size w w1):=(HB.out.alloc hs1 _).trans (hb1.mono (by simp;omega))
    clear hb1
    go_wp2
    go_roundw
    case rel=>
     refine ⟨k+1,by omega,by go_num,HB1.out,?_⟩
     intro i hi
     by_cases e:i=k
     ·subst e;exact HV.out
     ·exact HD.out i (by omega)
    case measure=>simp [intOf];omega
  ·have:k=l.length:=by omega
   subst this
   have F:Hid (codeB l=lastB l):=by
    show _=_
    rw [code_all HD.out,decide_eq_true ⟨hl1,hl⟩]
    simp
   obtain ⟨f0,f1,f2,f3,f4⟩:=(HC.out (l.length - 1) (by omega)).keep HB.out (by omega)
   generalize hx:l.getD (l.length - 1) z5=x at f0 f1 f2 f3 f4
   have FX:Hid (lastB l=Plain.endB x.o):=by show _=_;unfold lastB;rw [hx]
   clear hx
   obtain ⟨xo,xr,xa,xb,xn⟩:=x
   have b0:(1:Int)≤(l.length:Int):=by omega
   have b1:(l.length:Int) - 1 < (l.length:Int):=by omega
   go_wp2_with fail
   refine (endsCode_any _ _ _ _ _ _).mono ?_
   rintro e w1 ⟨rfl,hb1⟩
   have hs1:=HB.out.size
   go_wp2
   go_ret
   exact ⟨ret_bool (by rw [F.out,FX.out]),HB.out.trans (hb1.mono hs1)⟩
theorem implCode_bad (s : Option Addr) (n c : Nat) (w : World) (hn : n ≤ 1048576) (h : n < 1 ∨ 800 < n) :
  Calls Tryz.prog 84 #[.slice s n c] w fun e w'=>e=.returned (.bool false)∧w'=w:=by
 by_cases h2:n < 1
 ·have q1:(n:Int) < 1:=by omega
  clear h h2
  go_enter Tryz.func84,Tryz.ntmps84
  go_wp2
  go_ret
  exact ⟨rfl,rfl⟩
 ·have q1:¬ (n:Int) < 1:=by omega
  have q2:800 < (n:Int):=by omega
  clear h h2
  go_enter Tryz.func84,Tryz.ntmps84
  go_wp2
  go_ret
  exact ⟨rfl,rfl⟩
theorem implCode_any (s : Option Addr) (c B : Nat) (l : List I5) (w : World) (h : InsB w B s l) (hB : B ≤ w.heap.size) (hl : l.length ≤ 1048576) :
  Calls Tryz.prog 84 #[.slice s l.length c] w fun e w'=>e=.returned (.bool (codeB l))∧Below w.heap.size w w':=by
 by_cases hd:1≤l.length∧l.length≤800
 ·obtain ⟨h2,h3⟩:=hd
  rcases h with rfl | ⟨g,off,rfl,hg,hc⟩
  ·simp at h2
  ·exact implCode_some g off c B l w hg hc hB h2 h3
 ·have F:codeB l=false:=by
   refine code_short ?_
   simp [Plain.inB]
   omega
  rw [F]
  refine (implCode_bad s l.length c w hl (by omega)).mono ?_
  rintro e w' ⟨rfl,rfl⟩
  exact ⟨rfl,Below.refl _ _⟩
end
end Go.Proofs.YtlbeploopclegaaGreat
