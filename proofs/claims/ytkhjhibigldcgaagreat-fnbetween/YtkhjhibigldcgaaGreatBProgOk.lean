/- ProgOk of the specification and of the program, at every program whose lists are of at most 1048576 each: each answers as the plain law says; and how the laws hold two programs against each other. -/
import Derived.Test.YtkhjhibigldcgaaGreatBG00
import Derived.Test.YtkhjhibigldcgaaGreatBSpecIns
import Derived.Test.YtkhjhibigldcgaaGreatBG01
import Derived.Test.YtkhjhibigldcgaaGreatBG03
namespace Go.Proofs.YtkhjhibigldcgaaGreat
set_option linter.unusedSimpArgs false
set_option linter.unusedVariables false
set_option maxRecDepth 100000
open Go.RowKit
def capsB (l:List Int):Bool:=decide (∀ i,i < l.length→Plain.inB (l.getD i 0) 1 4=true)
def bodsB (p:PD):Bool:=decide (∀ i,i < p.bods.length→bodyB (p.bods.getD i []) p.caps.length=true)
def progB (p:PD):Bool:=capsB p.caps&&(bodsB p&&(decide (p.caps.length≤3)&&Plain.inB p.bods.length 1 4))
theorem caps_no {l:List Int} {k:Nat} (hk:k < l.length) (h:Plain.inB (l.getD k 0) 1 4=false):capsB l=false:=by
 unfold capsB
 rw [decide_eq_false_iff_not]
 intro hh
 rw [hh k hk] at h
 cases h
theorem caps_yes {l:List Int} (h:∀ i,i < l.length→Plain.inB (l.getD i 0) 1 4=true):capsB l=true:=by
 unfold capsB
 rw [decide_eq_true_iff]
 exact h
theorem bods_no {p:PD} {k:Nat} (hk:k < p.bods.length) (h:bodyB (p.bods.getD k []) p.caps.length=false):bodsB p=false:=by
 unfold bodsB
 rw [decide_eq_false_iff_not]
 intro hh
 rw [hh k hk] at h
 cases h
theorem bods_yes {p:PD} (h:∀ i,i < p.bods.length→bodyB (p.bods.getD i []) p.caps.length=true):bodsB p=true:=by
 unfold bodsB
 rw [decide_eq_true_iff]
 exact h
set_option maxRecDepth 100000 in
set_option maxHeartbeats 1000000 in
theorem specProg_any (s s' : Option Addr) (c c' lo hi : Nat) (p : PD) (w : World) (h : ProgR w lo hi s s' p) (hB : hi ≤ w.heap.size) (hf : Fits p) :
  Calls Tryz.prog 22 #[.agg #[.slice s p.caps.length c,.slice s' p.bods.length c']] w fun e w'=>e=.returned (.bool (progB p))∧Below w.heap.size w w':=by
 obtain ⟨q1,q2,q3⟩:=hf
 obtain ⟨h1,h2⟩:=h
 have H1:Hid (IntsR w lo hi s p.caps):=h1
 have H2:Hid (BodsR w lo hi s' p.bods):=h2
 have Q3:Hid (∀ i,i < p.bods.length→(p.bods.getD i []).length≤1048576):=q3
 clear h1 h2 q3
 go_enter Tryz.func22,Tryz.ntmps22
 go_wp2
 go_loop [3] (fun i=>∃ k:Nat,k≤p.caps.length∧i=.int .i64 k∧(∀ i,i < k→Plain.inB (p.caps.getD i 0) 1 4=true)) (fun i=>p.caps.length - (intOf i).toNat)
 case atStart=>exact ⟨0,Nat.zero_le _,rfl,fun i hi=>absurd hi (Nat.not_lt_zero _)⟩
 case round=>
  obtain ⟨k,hk,rfl,hd⟩:=hrel
  have HD:Hid (∀ i,i < k→Plain.inB (p.caps.getD i 0) 1 4=true):=hd
  clear hd
  by_cases hlt:k < p.caps.length
  ·have b0:(0:Int)≤(k:Int):=by omega
   have b1:(k:Int) < (p.caps.length:Int):=by omega
   obtain ⟨g,off,hs,-,hg,hc⟩:∃ g off,s=some ⟨g,off,none⟩∧lo≤g∧g < w.heap.size∧∀ i,i < p.caps.length→w.cell? ⟨g,off+i,none⟩=some (.int .i64 (p.caps.getD i 0)):=by
    rcases H1.out with h | ⟨g,off,a,b,d,e⟩
    ·rw [h] at hlt;simp at hlt
    ·exact ⟨g,off,a,b,by omega,e⟩
   subst hs
   have f0:=hc k hlt
   clear hc
   cases hv:Plain.inB (p.caps.getD k 0) 1 4
   ·have F:Hid (progB p=false):=by show _=_;unfold progB;rw [caps_no hlt hv];rfl
    generalize p.caps.getD k 0=x at f0 hv
    go_wp2_with (go_at_call 13;refine (l1In_any _ _ _ _).mono ?_;rintro e w' ⟨rfl,hw⟩;have hw':=hw.symm;clear hw;subst hw';rw [hv])
    go_ret
    exact ⟨by rw [F.out];rfl,(Below.refl _ _).alloc (Nat.le_refl _) _⟩
   ·have HV:Hid (Plain.inB (p.caps.getD k 0) 1 4=true):=hv
    generalize p.caps.getD k 0=x at f0 hv
    go_wp2_with (go_at_call 13;refine (l1In_any _ _ _ _).mono ?_;rintro e w' ⟨rfl,hw⟩;have hw':=hw.symm;clear hw;subst hw';rw [hv])
    go_round
    case rel=>
     refine ⟨k+1,by omega,by go_num,?_⟩
     intro i hi
     by_cases e:i=k
     ·subst e;exact HV.out
     ·exact HD.out i (by omega)
    case measure=>simp [intOf];omega
  ·have:k=p.caps.length:=by omega
   subst this
   have C:Hid (capsB p.caps=true):=caps_yes HD.out
   clear HD
   go_wp2
   go_loopw [4] (fun i wr=>∃ k:Nat,k≤p.bods.length∧i=.int .i64 k∧Below (w.heap.size+1) (w.alloc (.cells #[.slice s p.caps.length c,.slice s' p.bods.length c'] 27)) wr∧(∀ i,i < k→bodyB (p.bods.getD i []) p.caps.length=true)) (fun i _=>p.bods.length - (intOf i).toNat)
   case atStart=>exact ⟨0,Nat.zero_le _,rfl,Below.refl _ _,fun i hi=>absurd hi (Nat.not_lt_zero _)⟩
   case round=>
    obtain ⟨k,hk',rfl,hb,hd⟩:=hrel
    have HD:Hid (∀ i,i < k→bodyB (p.bods.getD i []) p.caps.length=true):=hd
    have x0:wr.cell? ⟨w.heap.size,0,none⟩=some (.slice s p.caps.length c):=by rw [hb.cell (by simp)];simp [go_sem]
    have x1:wr.cell? ⟨w.heap.size,1,none⟩=some (.slice s' p.bods.length c'):=by rw [hb.cell (by simp)];simp [go_sem]
    have k1:Below w.heap.size w wr:=((Below.refl _ _).alloc (Nat.le_refl _) _).trans (hb.mono (by omega))
    have hsz:w.heap.size < wr.heap.size:=by have:=hb.size;simp at this;omega
    have HB:Hid (Below (w.heap.size+1) (w.alloc (.cells #[.slice s p.caps.length c,.slice s' p.bods.length c'] 27)) wr):=hb
    have K1:Hid (Below w.heap.size w wr):=k1
    clear hd hb k1
    by_cases hlt':k < p.bods.length
    ·have b0:(0:Int)≤(k:Int):=by omega
     have b1:(k:Int) < (p.bods.length:Int):=by omega
     obtain ⟨g,off,hs,hg,hc⟩:∃ g off,s'=some ⟨g,off,none⟩∧g < w.heap.size∧BodR wr lo hi g (off+k) (p.bods.getD k []):=by
      rcases H2.out with h | ⟨g,off,a,b,d,e⟩
      ·rw [h] at hlt';simp at hlt'
      ·exact ⟨g,off,a,by omega,(e k hlt').keep (Keep.of_below K1.out hB) (K1.out.cell (p:=⟨g,off+k,none⟩) (by show g < _;omega))⟩
     subst hs
     obtain ⟨t,tc,f0,hin⟩:=hc
     have hlen:=Q3.out k hlt'
     cases hv:bodyB (p.bods.getD k []) p.caps.length
     ·have F:Hid (progB p=false):=by show _=_;unfold progB;rw [bods_no hlt' hv];simp
      generalize p.bods.getD k []=x at f0 hv hin hlen
      have HIN:Hid (InsR wr lo hi t x):=hin
      have HV:Hid (bodyB x p.caps.length=false):=hv
      clear hin hv
      go_wp2_with fail
      first | go_region_with (go_at_call 34;refine (specBody_any t tc wr.heap.size x p.caps.length _ ?_ ?_ hlen).mono ?_;(exact (HIN.out.mono (Nat.le_refl _) (by omega)).insB);(simp);rintro e w1 ⟨rfl,hb1⟩;rw [HV.out]) | fail
      all_goals
       have HB1:Hid (Below wr.heap.size wr w1):=⟨hb1.os,hb1.tape,hb1.output,hb1.size,hb1.block⟩
       clear hb1
       go_wp2
       go_ret
       exact ⟨by rw [F.out];rfl,K1.out.trans (HB1.out.mono (by omega))⟩
     ·have HVV:Hid (bodyB (p.bods.getD k []) p.caps.length=true):=hv
      generalize p.bods.getD k []=x at f0 hv hin hlen
      have HIN:Hid (InsR wr lo hi t x):=hin
      have HV:Hid (bodyB x p.caps.length=true):=hv
      clear hin hv
      go_wp2_with fail
      first | go_region_with (go_at_call 34;refine (specBody_any t tc wr.heap.size x p.caps.length _ ?_ ?_ hlen).mono ?_;(exact (HIN.out.mono (Nat.le_refl _) (by omega)).insB);(simp);rintro e w1 ⟨rfl,hb1⟩;rw [HV.out]) | fail
      all_goals
       have HB1:Hid (Below wr.heap.size wr w1):=⟨hb1.os,hb1.tape,hb1.output,hb1.size,hb1.block⟩
       clear hb1
       go_wp2
       go_roundw
       case rel=>
        refine ⟨k+1,by omega,by go_num,HB.out.trans (HB1.out.mono (by omega)),?_⟩
        intro i hi
        by_cases e:i=k
        ·subst e;exact HVV.out
        ·exact HD.out i (by omega)
       case measure=>simp [intOf];omega
    ·have:k=p.bods.length:=by omega
     subst this
     have F:Hid (progB p=(decide (p.caps.length≤3)&&Plain.inB p.bods.length 1 4)):=by show _=_;unfold progB;rw [C.out,bods_yes HD.out];simp
     by_cases h3:p.caps.length≤3
     ·have h3':(p.caps.length:Int)≤3:=by omega
      go_wp2_with (go_at_call 13;refine (l1In_any _ _ _ _).mono ?_;rintro e w' ⟨rfl,hw⟩;have hw':=hw.symm;clear hw;subst hw')
      go_ret
      exact ⟨ret_bool (by rw [F.out,decide_eq_true h3];rfl),K1.out⟩
     ·have h3':¬ (p.caps.length:Int)≤3:=by omega
      go_wp2_with (go_at_call 13;refine (l1In_any _ _ _ _).mono ?_;rintro e w' ⟨rfl,hw⟩;have hw':=hw.symm;clear hw;subst hw')
      go_ret
      exact ⟨ret_bool (by rw [F.out,decide_eq_false h3];rfl),K1.out⟩
end Go.Proofs.YtkhjhibigldcgaaGreat
