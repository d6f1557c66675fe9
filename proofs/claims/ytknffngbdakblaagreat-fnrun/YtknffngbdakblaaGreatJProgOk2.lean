/- ProgOk of the program, at every program whose lists are of at most 1048576 each; and how the laws hold two equal programs against each other. -/
import Derived.Test.YtknffngbdakblaaGreatJG00
import Derived.Test.YtknffngbdakblaaGreatJG01
import Derived.Test.YtknffngbdakblaaGreatJG05
import Derived.Test.YtknffngbdakblaaGreatJBody
import Derived.Test.YtknffngbdakblaaGreatJProgOk
namespace Go.Proofs.YtknffngbdakblaaGreat
set_option linter.unusedSimpArgs false
set_option linter.unusedVariables false
set_option maxRecDepth 100000
open Go.RowKit
theorem below_draw {B:Nat} {w w':World} (h:Below B w w') (m:Nat):Below B w (w'.drewN m):=⟨h.os,h.tape,h.output,h.size,h.block⟩
theorem capOk_any (n:Int) (w:World):Calls Tryz.prog 84 #[.int .i64 n] w fun e w'=>e=.returned (.bool (Plain.inB n 1 4))∧w'=w:=by
 by_cases h0:1≤n<;>by_cases h1:n≤4
 all_goals
  go_enter Tryz.func84,Tryz.ntmps84
  go_wp2
  go_ret
  exact ⟨by simp [Plain.inB];omega,rfl⟩
set_option maxRecDepth 100000 in
set_option maxHeartbeats 1000000 in
theorem capsOk_any (s : Option Addr) (c lo hi : Nat) (l : List Int) (w : World) (h : IntsR w lo hi s l) (hl : l.length ≤ 1048576) :
  Calls Tryz.prog 61 #[.slice s l.length c] w fun e w'=>e=.returned (.bool (decide (l.length≤3)&&capsB l))∧w'=w:=by
 have H1:Hid (IntsR w lo hi s l):=h
 clear h
 by_cases h3:l.length≤3
 ·have hch:Plain.chansB (l.length:Int)=true:=by simp [Plain.chansB];omega
  have E:Hid ((decide (l.length≤3)&&capsB l)=capsB l):=by show _=_;rw [decide_eq_true h3];simp
  go_enter Tryz.func61,Tryz.ntmps61
  go_wp2_with (go_at_call 83;refine (areChans_is _ true _ hch).mono ?_;rintro e w' ⟨rfl,hw⟩;have hw':=hw.symm;clear hw;subst hw')
  go_loop [11] (fun i=>∃ k:Nat,k≤l.length∧i=.int .i64 k∧(∀ i,i < k→Plain.inB (l.getD i 0) 1 4=true)) (fun i=>l.length - (intOf i).toNat)
  case atStart=>exact ⟨0,Nat.zero_le _,rfl,fun i hi=>absurd hi (Nat.not_lt_zero _)⟩
  case round=>
   obtain ⟨k,hk,rfl,hd⟩:=hrel
   have HD:Hid (∀ i,i < k→Plain.inB (l.getD i 0) 1 4=true):=hd
   clear hd
   by_cases hlt:k < l.length
   ·have b0:(0:Int)≤(k:Int):=by omega
    have b1:(k:Int) < (l.length:Int):=by omega
    obtain ⟨g,off,hs,hc⟩:∃ g off,s=some ⟨g,off,none⟩∧∀ i,i < l.length→w.cell? ⟨g,off+i,none⟩=some (.int .i64 (l.getD i 0)):=by
     rcases H1.out with h | ⟨g,off,a,b,d,e⟩
     ·rw [h] at hlt;simp at hlt
     ·exact ⟨g,off,a,e⟩
    subst hs
    have f0:=hc k hlt
    clear hc
    cases hv:Plain.inB (l.getD k 0) 1 4
    ·have F:Hid (capsB l=false):=caps_no hlt hv
     generalize l.getD k 0=x at f0 hv
     go_wp2_with (go_at_call 84;refine (capOk_any _ _).mono ?_;rintro e w' ⟨rfl,hw⟩;have hw':=hw.symm;clear hw;subst hw';rw [hv])
     go_ret
     exact ⟨by rw [E.out,F.out];rfl,rfl⟩
    ·have HV:Hid (Plain.inB (l.getD k 0) 1 4=true):=hv
     generalize l.getD k 0=x at f0 hv
     go_wp2_with (go_at_call 84;refine (capOk_any _ _).mono ?_;rintro e w' ⟨rfl,hw⟩;have hw':=hw.symm;clear hw;subst hw';rw [hv])
     go_round
     case rel=>
      refine ⟨k+1,by omega,by go_num,?_⟩
      intro i hi
      by_cases e:i=k
      ·subst e;exact HV.out
      ·exact HD.out i (by omega)
     case measure=>simp [intOf];omega
   ·have:k=l.length:=by omega
    subst this
    go_wp2
    go_ret
    exact ⟨by first | (rw [E.out,caps_yes HD.out];rfl) | (rw [caps_yes HD.out];rfl),rfl⟩
 ·have hch:Plain.chansB (l.length:Int)=false:=by simp [Plain.chansB];omega
  have E:Hid ((decide (l.length≤3)&&capsB l)=false):=by show _=_;rw [decide_eq_false h3];simp
  go_enter Tryz.func61,Tryz.ntmps61
  go_wp2_with (go_at_call 83;refine (areChans_is _ false _ hch).mono ?_;rintro e w' ⟨rfl,hw⟩;have hw':=hw.symm;clear hw;subst hw')
  go_ret
  exact ⟨by rw [E.out];rfl,rfl⟩
theorem prog_caps {p:PD} (h:(decide (p.caps.length≤3)&&capsB p.caps)=false):progB p=false:=by
 unfold progB
 cases h1:capsB p.caps
 ·rfl
 ·rw [h1] at h
  simp at h
  simp [h]
  omega
theorem prog_len {p:PD} (h:¬ (1≤p.bods.length∧p.bods.length≤4)):progB p=false:=by
 have:Plain.inB p.bods.length 1 4=false:=by simp [Plain.inB];omega
 unfold progB
 rw [this]
 simp
theorem prog_bods {p:PD} (h:bodsB p=false):progB p=false:=by
 unfold progB
 rw [h]
 simp
theorem prog_yes {p:PD} (h1:(decide (p.caps.length≤3)&&capsB p.caps)=true) (h2:1≤p.bods.length) (h3:p.bods.length≤4) (h4:bodsB p=true):progB p=true:=by
 have:Plain.inB p.bods.length 1 4=true:=by simp [Plain.inB];omega
 simp only [Bool.and_eq_true,decide_eq_true_eq] at h1
 unfold progB
 rw [this,h4,h1.2,decide_eq_true h1.1]
 rfl
set_option maxRecDepth 100000 in
set_option maxHeartbeats 1000000 in
theorem implProg_any (s s' : Option Addr) (c c' lo hi : Nat) (p : PD) (w : World) (h : ProgR w lo hi s s' p) (hB : hi ≤ w.heap.size) (hf : Fits p) :
  Calls Tryz.prog 45 #[.agg #[.slice s p.caps.length c,.slice s' p.bods.length c']] w fun e w'=>e=.returned (.bool (progB p))∧Below w.heap.size w w':=by
 obtain ⟨q1,q2,q3⟩:=hf
 obtain ⟨h1,h2⟩:=h
 have H1:Hid (IntsR w lo hi s p.caps):=h1
 have H2:Hid (BodsR w lo hi s' p.bods):=h2
 have Q3:Hid (∀ i,i < p.bods.length→(p.bods.getD i []).length≤1048576):=q3
 clear h1 h2 q3
 have ka:Below w.heap.size w (w.alloc (.cells #[.slice s p.caps.length c,.slice s' p.bods.length c'] 27)):=(Below.refl _ _).alloc (Nat.le_refl _) _
 have KA:Hid (Below w.heap.size w (w.alloc (.cells #[.slice s p.caps.length c,.slice s' p.bods.length c'] 27))):=ka
 clear ka
 cases hcv:(decide (p.caps.length≤3)&&capsB p.caps)
 ·have F:Hid (progB p=false):=prog_caps hcv
  have HV:Hid ((decide (p.caps.length≤3)&&capsB p.caps)=false):=hcv
  clear hcv
  go_enter Tryz.func45,Tryz.ntmps45
  go_wp2_with (go_at_call 61;refine (capsOk_any s c lo hi p.caps _ (H1.out.keep (Keep.of_below KA.out hB)) q1).mono ?_;rintro e w' ⟨rfl,hw⟩;have hw':=hw.symm;clear hw;subst hw';rw [HV.out])
  go_ret
  exact ⟨by rw [F.out];rfl,KA.out⟩
 ·have HV:Hid ((decide (p.caps.length≤3)&&capsB p.caps)=true):=hcv
  clear hcv
  by_cases l1:1≤p.bods.length
  ·have l1':¬ (p.bods.length:Int) < 1:=by omega
   by_cases l4:p.bods.length≤4
   ·have l4':¬ 4 < (p.bods.length:Int):=by omega
    go_enter Tryz.func45,Tryz.ntmps45
    go_wp2_with (go_at_call 61;refine (capsOk_any s c lo hi p.caps _ (H1.out.keep (Keep.of_below KA.out hB)) q1).mono ?_;rintro e w' ⟨rfl,hw⟩;have hw':=hw.symm;clear hw;subst hw';rw [HV.out])
    go_loopw [24] (fun i wr=>∃ k:Nat,k≤p.bods.length∧i=.int .i64 k∧Below (w.heap.size+1) (w.alloc (.cells #[.slice s p.caps.length c,.slice s' p.bods.length c'] 27)) wr∧(∀ i,i < k→bodyB (p.bods.getD i []) p.caps.length=true)) (fun i _=>p.bods.length - (intOf i).toNat)
    case atStart=>exact ⟨0,Nat.zero_le _,rfl,Below.refl _ _,fun i hi=>absurd hi (Nat.not_lt_zero _)⟩
    case round=>
     obtain ⟨k,hk',rfl,hb,hd⟩:=hrel
     have HD:Hid (∀ i,i < k→bodyB (p.bods.getD i []) p.caps.length=true):=hd
     have x0:wr.cell? ⟨w.heap.size,0,none⟩=some (.slice s p.caps.length c):=by rw [hb.cell (by simp)];simp [go_sem]
     have k1:Below w.heap.size w wr:=KA.out.trans (hb.mono (by omega))
     have hsz:w.heap.size < wr.heap.size:=by have:=hb.size;simp at this;omega
     have HB:Hid (Below (w.heap.size+1) (w.alloc (.cells #[.slice s p.caps.length c,.slice s' p.bods.length c'] 27)) wr):=hb
     have K1:Hid (Below w.heap.size w wr):=k1
     clear hd hb k1
     by_cases hlt':k < p.bods.length
     ·have b0:(0:Int)≤(k:Int):=by omega
      have b1:(k:Int) < (p.bods.length:Int):=by omega
      obtain ⟨g,off,hs,hg,hc⟩:∃ g off,s'=some ⟨g,off,none⟩∧g < w.heap.size∧BodR wr lo hi g (off+k) (p.bods.getD k []):=by
       rcases H2.out with h | ⟨g,off,a,b,d,e⟩
       ·rw [h] at hlt';simp at hlt'
       ·exact ⟨g,off,a,by omega,(e k hlt').keep (Keep.of_below K1.out hB) (K1.out.cell (p:=⟨g,off+k,none⟩) (by show g < _;omega))⟩
      subst hs
      obtain ⟨t,tc,f0,hin⟩:=hc
      have hlen:=Q3.out k hlt'
      cases hv:bodyB (p.bods.getD k []) p.caps.length
      ·have F:Hid (progB p=false):=prog_bods (bods_no hlt' hv)
       generalize p.bods.getD k []=x at f0 hv hin hlen
       have HIN:Hid (InsR wr lo hi t x):=hin
       have HVB:Hid (bodyB x p.caps.length=false):=hv
       clear hin hv
       go_wp2_with fail
       refine (implBody_any t tc wr.heap.size x p.caps.length wr (HIN.out.mono (Nat.le_refl _) (by omega)).insB (Nat.le_refl _) hlen).mono ?_
       rintro e w1 ⟨rfl,hb1⟩
       rw [HVB.out]
       go_wp2
       go_ret
       exact ⟨by rw [F.out];rfl,K1.out.trans (hb1.mono (by omega))⟩
      ·have HVV:Hid (bodyB (p.bods.getD k []) p.caps.length=true):=hv
       generalize p.bods.getD k []=x at f0 hv hin hlen
       have HIN:Hid (InsR wr lo hi t x):=hin
       have HVB:Hid (bodyB x p.caps.length=true):=hv
       clear hin hv
       go_wp2_with fail
       refine (implBody_any t tc wr.heap.size x p.caps.length wr (HIN.out.mono (Nat.le_refl _) (by omega)).insB (Nat.le_refl _) hlen).mono ?_
       rintro e w1 ⟨rfl,hb1⟩
       rw [HVB.out]
       have HB1:Hid (Below wr.heap.size wr w1):=hb1
       clear hb1
       go_wp2
       go_roundw
       case rel=>
        refine ⟨k+1,by omega,by go_num,HB.out.trans (HB1.out.mono (by omega)),?_⟩
        intro i hi
        by_cases e:i=k
        ·subst e;exact HVV.out
        ·exact HD.out i (by omega)
       case measure=>simp [intOf];omega
     ·have:k=p.bods.length:=by omega
      subst this
      go_wp2
      go_ret
      exact ⟨by rw [prog_yes HV.out l1 l4 (bods_yes HD.out)];rfl,K1.out⟩
   ·have l4':4 < (p.bods.length:Int):=by omega
    have F:Hid (progB p=false):=prog_len (by omega)
    go_enter Tryz.func45,Tryz.ntmps45
    go_wp2_with (go_at_call 61;refine (capsOk_any s c lo hi p.caps _ (H1.out.keep (Keep.of_below KA.out hB)) q1).mono ?_;rintro e w' ⟨rfl,hw⟩;have hw':=hw.symm;clear hw;subst hw';rw [HV.out])
    go_ret
    exact ⟨by rw [F.out];rfl,KA.out⟩
  ·have l1':(p.bods.length:Int) < 1:=by omega
   have F:Hid (progB p=false):=prog_len (by omega)
   go_enter Tryz.func45,Tryz.ntmps45
   go_wp2_with (go_at_call 61;refine (capsOk_any s c lo hi p.caps _ (H1.out.keep (Keep.of_below KA.out hB)) q1).mono ?_;rintro e w' ⟨rfl,hw⟩;have hw':=hw.symm;clear hw;subst hw';rw [HV.out])
   go_ret
   exact ⟨by rw [F.out];rfl,KA.out⟩
end Go.Proofs.YtknffngbdakblaaGreat
