/- First steps, without a program: where each place begins, what the map of first steps holds, what its keys are when they are told sorted. Conditions: bodies of at most 24 places, each of a kind that there is. ProgOk of the program, at every program whose lists are of at most 1048576 each; and how the laws hold two equal programs against each other. The body that is asked for: nothing where there is none. Conditions: programs that fit. Rows of steps that a call has made: how they lie, what keeps them, append of one behind another. Conditions: at most a thousand steps. Single steps as the small functions of both sides make them. No condition. Steps of a site: what loads and stores a cell of its channel. Conditions: the channel lies in memory. What a site locks, lets go, asks. Conditions: the channel lies in memory. A row behind what lets a lock go; what faults. Conditions: the channel lies in memory, and the row is of at most a hundred steps. -/
import Derived.Test.YtkhjhibigldcgaaGreatBG00
import Derived.Test.YtkhjhibigldcgaaGreatBG01
import Derived.Test.YtkhjhibigldcgaaGreatBG03
import Derived.Test.YtkhjhibigldcgaaGreatBProgOk
import Derived.Test.YtkhjhibigldcgaaGreatBE10Of
import Derived.Maps.Range
import Derived.Maps.Ext
import Derived.Test.YtkhjhibigldcgaaGreatBLeaves
import Derived.Test.YtkhjhibigldcgaaGreatBG04
import Derived.Laws.AppendOwnNone
import Derived.Deep.AppendLies
import Derived.OwnWalk
import Derived.Deep.RegionHeld3
namespace Go.Proofs.YtkhjhibigldcgaaGreat
section
set_option linter.unusedSimpArgs false
set_option linter.unusedVariables false
set_option maxRecDepth 100000
open Go.RowKit Go.Maps
theorem hidP {p:Prop} (h:p):Hid p:=h
def stV (l:List I5):Nat→Int
 | 0=>0
 | n+1=>stV l n+sizeV (l.getD n z5).o
def stL (l:List I5) (n:Nat):List Int:=(List.range n).map (stV l)
structure Rt (l:List I5):Prop where
 len:l.length≤24
 sz:∀ i,i < l.length→1≤sizeV (l.getD i z5).o∧sizeV (l.getD i z5).o≤32
theorem rt_nil:Rt []:=⟨Nat.zero_le _,fun i hi=>absurd hi (Nat.not_lt_zero _)⟩
theorem size_op {o:Int} (h1:1≤o) (h2:o≤13):1≤sizeV o∧sizeV o≤32:=by
 unfold sizeV
 repeat' split
 all_goals omega
theorem insB_op {o r a b n pl ch:Int} (h:Plain.insB o r a b n pl ch=true):1≤o∧o≤13:=by
 simp only [Plain.insB,decide_eq_true_eq] at h
 omega
theorem bodyB_rt {l:List I5} {ch:Int} (h:bodyB l ch=true):Rt l∧1≤l.length:=by
 simp only [bodyB,Bool.and_eq_true,decide_eq_true_eq] at h
 exact ⟨⟨h.2.1.2,fun i hi=>by obtain ⟨h1,h2⟩:=insB_op (h.1 i hi);exact size_op h1 h2⟩,h.2.1.1⟩
theorem progB_body {p:PD} (h:progB p=true) {i:Nat} (hi:i < p.bods.length):Rt (p.bods.getD i [])∧1≤(p.bods.getD i []).length:=by
 simp only [progB,bodsB,Bool.and_eq_true,decide_eq_true_eq] at h
 exact bodyB_rt (h.2.1 i hi)
theorem progB_len {p:PD} (h:progB p=true):1≤p.bods.length∧p.bods.length≤4∧p.caps.length≤3∧∀ i,i < p.caps.length→1≤p.caps.getD i 0∧p.caps.getD i 0≤4:=by
 simp only [progB,capsB,Plain.inB,Bool.and_eq_true,decide_eq_true_eq] at h
 refine ⟨by omega,by omega,h.2.2.1,h.1⟩
theorem stV_step {l:List I5} (h:Rt l) {i:Nat} (hi:i < l.length):stV l i+1≤stV l (i+1)∧stV l (i+1)≤stV l i+32:=by
 have:=h.sz i hi
 simp only [stV]
 omega
theorem stV_bd {l:List I5} (h:Rt l):∀ i,i≤l.length→0≤stV l i∧stV l i≤32 * i
 | 0,_=>by simp [stV]
 | i+1,hi=>by have:=stV_bd h i (by omega);have:=stV_step h (i:=i) (by omega);omega
theorem stV_lt {l:List I5} (h:Rt l) {i:Nat}:∀ j,i < j→j≤l.length→stV l i < stV l j
 | 0,h1,_=>absurd h1 (Nat.not_lt_zero _)
 | j+1,h1,h2=>by
  have s:=stV_step h (i:=j) (by omega)
  rcases Nat.lt_or_ge i j with h3 | h3
  ·have:=stV_lt h j h3 (by omega);omega
  ·have:i=j:=by omega
   subst this
   omega
theorem stV_inj {l:List I5} (h:Rt l) {i j:Nat} (hi:i≤l.length) (hj:j≤l.length) (e:stV l i=stV l j):i=j:=by
 rcases Nat.lt_trichotomy i j with h1 | h1 | h1
 ·have:=stV_lt h j h1 hj;omega
 ·exact h1
 ·have:=stV_lt h i h1 hi;omega
theorem stV_big {l:List I5} (h:Rt l) {i:Nat} (hi:i≤l.length):0≤stV l i∧stV l i≤768:=by
 have:=stV_bd h i hi
 have:=h.len
 omega
theorem stV_wf {l:List I5} (h:Rt l) {i:Nat} (hi:i≤l.length):(Lit.int .i64 (stV l i)).wf=true:=by
 have:=stV_big h hi
 exact WalkArith.wf_i64 (by omega)
theorem stL_len (l:List I5) (n:Nat):(stL l n).length=n:=by simp [stL]
theorem stL_at (l:List I5) {n i:Nat} (hi:i < n):(stL l n).getD i 0=stV l i:=by simp [stL,List.getD_eq_getElem?_getD,hi]
theorem stL_succ (l:List I5) (n:Nat):stL l (n+1)=stL l n++[stV l n]:=by simp [stL,List.range_succ]
/- the map of first steps -/
def mpD (l:List I5):Nat→DataW Unit
 | 0=>.map []
 | n+1=>(mpD l n).put (.int .i64 (stV l n)) (.lit (.int .i64 n))
theorem mpD_map (l:List I5):∀ n,IsMap (mpD l n)
 | 0=>isMap_empty
 | n+1=>(mpD_map l n).put _ _
theorem isK (x:Int):WideAt.IsKeyLit (Lit.int .i64 x):=trivial
theorem ne_key {x y:Int} (h:x≠y):Lit.int .i64 x≠Lit.int .i64 y:=fun e=>h (by simpa using e)
theorem mpD_has {l:List I5} (x:Int):∀ n,Maps.has (mpD l n) (.int .i64 x)=true↔∃ i,i < n∧stV l i=x
 | 0=>by simp [mpD,Maps.has]
 | n+1=>by
  by_cases e:x=stV l n
  ·subst e
   rw [mpD,has_put_same (mpD_map l n) (isK _)]
   exact ⟨fun _=>⟨n,Nat.lt_succ_self _,rfl⟩,fun _=>rfl⟩
  ·rw [mpD,has_put_other (ne_key e),mpD_has x n]
   constructor
   ·rintro ⟨i,hi,h⟩;exact ⟨i,by omega,h⟩
   ·rintro ⟨i,hi,h⟩
    refine ⟨i,?_,h⟩
    have:i≠n:=fun e'=>e (by rw [← h,e'])
    omega
theorem mpD_at {l:List I5} (h:Rt l) {i:Nat} (z:DataW Unit):∀ n,i < n→n≤l.length→(mpD l n).atKey (.int .i64 (stV l i)) z=.lit (.int .i64 i)
 | 0,h1,_=>absurd h1 (Nat.not_lt_zero _)
 | n+1,h1,h2=>by
  by_cases e:i=n
  ·subst e
   exact atKey_put_same (mpD_map l i) (isK _) _ _
  ·rw [mpD,atKey_put_other (ne_key fun e'=>e (stV_inj h (by omega) (by omega) e'))]
   exact mpD_at h z n (by omega) (by omega)
/- the place that a step belongs to -/
theorem place_is {l:List I5} {at':Int}:∀ n,0≤at'→at' < stV l n→∃ i,i < n∧stV l i≤at'∧at' < stV l (i+1)
 | 0,h0,h1=>by simp [stV] at h1;omega
 | n+1,h0,h1=>by
  by_cases h2:at' < stV l n
  ·obtain ⟨i,hi,h⟩:=place_is n h0 h2
   exact ⟨i,by omega,h⟩
  ·exact ⟨n,Nat.lt_succ_self _,by omega,h1⟩
theorem place_one {l:List I5} (h:Rt l) {at':Int} {i j:Nat} (hi:i < l.length) (hj:j < l.length) (a1:stV l i≤at') (a2:at' < stV l (i+1)) (b1:stV l j≤at') (b2:at' < stV l (j+1)):i=j:=by
 rcases Nat.lt_trichotomy i j with h1 | h1 | h1
 ·rcases Nat.lt_or_ge (i+1) j with h2 | h2
  ·have:=stV_lt h j h2 (by omega);omega
  ·have:i+1=j:=by omega
   rw [this] at a2;omega
 ·exact h1
 ·rcases Nat.lt_or_ge (j+1) i with h2 | h2
  ·have:=stV_lt h i h2 (by omega);omega
  ·have:j+1=i:=by omega
   rw [this] at b2;omega
end
section
set_option linter.unusedSimpArgs false
set_option linter.unusedVariables false
set_option maxRecDepth 100000
open Go.RowKit
theorem capOk_any (n:Int) (w:World):Calls Tryz.prog 50 #[.int .i64 n] w fun e w'=>e=.returned (.bool (Plain.inB n 1 4))∧w'=w:=by
 by_cases h0:1≤n<;>by_cases h1:n≤4
 all_goals
  go_enter Tryz.func50,Tryz.ntmps50
  go_wp2
  go_ret
  exact ⟨by simp [Plain.inB];omega,rfl⟩
set_option maxRecDepth 100000 in
set_option maxHeartbeats 1000000 in
theorem capsOk_any (s : Option Addr) (c lo hi : Nat) (l : List Int) (w : World) (h : IntsR w lo hi s l) (hl : l.length ≤ 1048576) :
  Calls Tryz.prog 37 #[.slice s l.length c] w fun e w'=>e=.returned (.bool (decide (l.length≤3)&&capsB l))∧w'=w:=by
 have H1:Hid (IntsR w lo hi s l):=h
 clear h
 by_cases h3:l.length≤3
 ·have hch:Plain.chansB (l.length:Int)=true:=by simp [Plain.chansB];omega
  have E:Hid ((decide (l.length≤3)&&capsB l)=capsB l):=by show _=_;rw [decide_eq_true h3];simp
  go_enter Tryz.func37,Tryz.ntmps37
  go_wp2_with (go_at_call 49;refine (areChans_is _ true _ hch).mono ?_;rintro e w' ⟨rfl,hw⟩;have hw':=hw.symm;clear hw;subst hw')
  go_loop [11] (fun i=>∃ k:Nat,k≤l.length∧i=.int .i64 k∧(∀ i,i < k→Plain.inB (l.getD i 0) 1 4=true)) (fun i=>l.length - (intOf i).toNat)
  case atStart=>exact ⟨0,Nat.zero_le _,rfl,fun i hi=>absurd hi (Nat.not_lt_zero _)⟩
  case round=>
   obtain ⟨k,hk,rfl,hd⟩:=hrel
   have HD:Hid (∀ i,i < k→Plain.inB (l.getD i 0) 1 4=true):=hd
   clear hd
   by_cases hlt:k < l.length
   ·have b0:(0:Int)≤(k:Int):=by omega
    have b1:(k:Int) < (l.length:Int):=by omega
    obtain ⟨g,off,hs,hc⟩:∃ g off,s=some ⟨g,off,none⟩∧∀ i,i < l.length→w.cell? ⟨g,off+i,none⟩=some (.int .i64 (l.getD i 0)):=by
     rcases H1.out with h | ⟨g,off,a,b,d,e⟩
     ·rw [h] at hlt;simp at hlt
     ·exact ⟨g,off,a,e⟩
    subst hs
    have f0:=hc k hlt
    clear hc
    cases hv:Plain.inB (l.getD k 0) 1 4
    ·have F:Hid (capsB l=false):=caps_no hlt hv
     generalize l.getD k 0=x at f0 hv
     go_wp2_with (go_at_call 50;refine (capOk_any _ _).mono ?_;rintro e w' ⟨rfl,hw⟩;have hw':=hw.symm;clear hw;subst hw';rw [hv])
     go_ret
     exact ⟨by rw [E.out,F.out];rfl,rfl⟩
    ·have HV:Hid (Plain.inB (l.getD k 0) 1 4=true):=hv
     generalize l.getD k 0=x at f0 hv
     go_wp2_with (go_at_call 50;refine (capOk_any _ _).mono ?_;rintro e w' ⟨rfl,hw⟩;have hw':=hw.symm;clear hw;subst hw';rw [hv])
     go_round
     case rel=>
      refine ⟨k+1,by omega,by go_num,?_⟩
      intro i hi
      by_cases e:i=k
      ·subst e;exact HV.out
      ·exact HD.out i (by omega)
     case measure=>simp [intOf];omega
   ·have:k=l.length:=by omega
    subst this
    go_wp2
    go_ret
    exact ⟨by first | (rw [E.out,caps_yes HD.out];rfl) | (rw [caps_yes HD.out];rfl),rfl⟩
 ·have hch:Plain.chansB (l.length:Int)=false:=by simp [Plain.chansB];omega
  have E:Hid ((decide (l.length≤3)&&capsB l)=false):=by show _=_;rw [decide_eq_false h3];simp
  go_enter Tryz.func37,Tryz.ntmps37
  go_wp2_with (go_at_call 49;refine (areChans_is _ false _ hch).mono ?_;rintro e w' ⟨rfl,hw⟩;have hw':=hw.symm;clear hw;subst hw')
  go_ret
  exact ⟨by rw [E.out];rfl,rfl⟩
theorem prog_caps {p:PD} (h:(decide (p.caps.length≤3)&&capsB p.caps)=false):progB p=false:=by
 unfold progB
 cases h1:capsB p.caps
 ·rfl
 ·rw [h1] at h
  simp at h
  simp [h]
  omega
theorem prog_len {p:PD} (h:¬ (1≤p.bods.length∧p.bods.length≤4)):progB p=false:=by
 have:Plain.inB p.bods.length 1 4=false:=by simp [Plain.inB];omega
 unfold progB
 rw [this]
 simp
theorem prog_bods {p:PD} (h:bodsB p=false):progB p=false:=by
 unfold progB
 rw [h]
 simp
theorem prog_yes {p:PD} (h1:(decide (p.caps.length≤3)&&capsB p.caps)=true) (h2:1≤p.bods.length) (h3:p.bods.length≤4) (h4:bodsB p=true):progB p=true:=by
 have:Plain.inB p.bods.length 1 4=true:=by simp [Plain.inB];omega
 simp only [Bool.and_eq_true,decide_eq_true_eq] at h1
 unfold progB
 rw [this,h4,h1.2,decide_eq_true h1.1]
 rfl
set_option maxRecDepth 100000 in
set_option maxHeartbeats 1000000 in
theorem implProg_any (s s' : Option Addr) (c c' lo hi : Nat) (p : PD) (w : World) (h : ProgR w lo hi s s' p) (hB : hi ≤ w.heap.size) (hf : Fits p) :
  Calls Tryz.prog 25 #[.agg #[.slice s p.caps.length c,.slice s' p.bods.length c']] w fun e w'=>e=.returned (.bool (progB p))∧Below w.heap.size w w':=by
 obtain ⟨q1,q2,q3⟩:=hf
 obtain ⟨h1,h2⟩:=h
 have H1:Hid (IntsR w lo hi s p.caps):=h1
 have H2:Hid (BodsR w lo hi s' p.bods):=h2
 have Q3:Hid (∀ i,i < p.bods.length→(p.bods.getD i []).length≤1048576):=q3
 clear h1 h2 q3
 have ka:Below w.heap.size w (w.alloc (.cells #[.slice s p.caps.length c,.slice s' p.bods.length c'] 27)):=(Below.refl _ _).alloc (Nat.le_refl _) _
 have KA:Hid (Below w.heap.size w (w.alloc (.cells #[.slice s p.caps.length c,.slice s' p.bods.length c'] 27))):=ka
 clear ka
 cases hcv:(decide (p.caps.length≤3)&&capsB p.caps)
 ·have F:Hid (progB p=false):=prog_caps hcv
  have HV:Hid ((decide (p.caps.length≤3)&&capsB p.caps)=false):=hcv
  clear hcv
  go_enter Tryz.func25,Tryz.ntmps25
  go_wp2_with (go_at_call 37;refine (capsOk_any s c lo hi p.caps _ (H1.out.keep (Keep.of_below KA.out hB)) q1).mono ?_;rintro e w' ⟨rfl,hw⟩;have hw':=hw.symm;clear hw;subst hw';rw [HV.out])
  go_ret
  exact ⟨by rw [F.out];rfl,KA.out⟩
 ·have HV:Hid ((decide (p.caps.length≤3)&&capsB p.caps)=true):=hcv
  clear hcv
  by_cases l1:1≤p.bods.length
  ·have l1':¬ (p.bods.length:Int) < 1:=by omega
   by_cases l4:p.bods.length≤4
   ·have l4':¬ 4 < (p.bods.length:Int):=by omega
    go_enter Tryz.func25,Tryz.ntmps25
    go_wp2_with (go_at_call 37;refine (capsOk_any s c lo hi p.caps _ (H1.out.keep (Keep.of_below KA.out hB)) q1).mono ?_;rintro e w' ⟨rfl,hw⟩;have hw':=hw.symm;clear hw;subst hw';rw [HV.out])
    go_loopw [24] (fun i wr=>∃ k:Nat,k≤p.bods.length∧i=.int .i64 k∧Below (w.heap.size+1) (w.alloc (.cells #[.slice s p.caps.length c,.slice s' p.bods.length c'] 27)) wr∧(∀ i,i < k→bodyB (p.bods.getD i []) p.caps.length=true)) (fun i _=>p.bods.length - (intOf i).toNat)
    case atStart=>exact ⟨0,Nat.zero_le _,rfl,Below.refl _ _,fun i hi=>absurd hi (Nat.not_lt_zero _)⟩
    case round=>
     obtain ⟨k,hk',rfl,hb,hd⟩:=hrel
     have HD:Hid (∀ i,i < k→bodyB (p.bods.getD i []) p.caps.length=true):=hd
     have x0:wr.cell? ⟨w.heap.size,0,none⟩=some (.slice s p.caps.length c):=by rw [hb.cell (by simp)];simp [go_sem]
     have k1:Below w.heap.size w wr:=KA.out.trans (hb.mono (by omega))
     have hsz:w.heap.size < wr.heap.size:=by have:=hb.size;simp at this;omega
     have HB:Hid (Below (w.heap.size+1) (w.alloc (.cells #[.slice s p.caps.length c,.slice s' p.bods.length c'] 27)) wr):=hb
     have K1:Hid (Below w.heap.size w wr):=k1
     clear hd hb k1
     by_cases hlt':k < p.bods.length
     ·have b0:(0:Int)≤(k:Int):=by omega
      have b1:(k:Int) < (p.bods.length:Int):=by omega
      obtain ⟨g,off,hs,hg,hc⟩:∃ g off,s'=some ⟨g,off,none⟩∧g < w.heap.size∧BodR wr lo hi g (off+k) (p.bods.getD k []):=by
       rcases H2.out with h | ⟨g,off,a,b,d,e⟩
       ·rw [h] at hlt';simp at hlt'
       ·exact ⟨g,off,a,by omega,(e k hlt').keep (Keep.of_below K1.out hB) (K1.out.cell (p:=⟨g,off+k,none⟩) (by show g < _;omega))⟩
      subst hs
      obtain ⟨t,tc,f0,hin⟩:=hc
      have hlen:=Q3.out k hlt'
      cases hv:bodyB (p.bods.getD k []) p.caps.length
      ·have F:Hid (progB p=false):=prog_bods (bods_no hlt' hv)
       generalize p.bods.getD k []=x at f0 hv hin hlen
       have HIN:Hid (InsR wr lo hi t x):=hin
       have HVB:Hid (bodyB x p.caps.length=false):=hv
       clear hin hv
       go_wp2_with fail
       refine (implBody_any t tc wr.heap.size x p.caps.length wr (HIN.out.mono (Nat.le_refl _) (by omega)).insB (Nat.le_refl _) hlen).mono ?_
       rintro e w1 ⟨rfl,hb1⟩
       rw [HVB.out]
       go_wp2
       go_ret
       exact ⟨by rw [F.out];rfl,K1.out.trans (hb1.mono (by omega))⟩
      ·have HVV:Hid (bodyB (p.bods.getD k []) p.caps.length=true):=hv
       generalize p.bods.getD k []=x at f0 hv hin hlen
       have HIN:Hid (InsR wr lo hi t x):=hin
       have HVB:Hid (bodyB x p.caps.length=true):=hv
       clear hin hv
       go_wp2_with fail
       refine (implBody_any t tc wr.heap.size x p.caps.length wr (HIN.out.mono (Nat.le_refl _) (by omega)).insB (Nat.le_refl _) hlen).mono ?_
       rintro e w1 ⟨rfl,hb1⟩
       rw [HVB.out]
       have HB1:Hid (Below wr.heap.size wr w1):=hb1
       clear hb1
       go_wp2
       go_roundw
       case rel=>
        refine ⟨k+1,by omega,by go_num,HB.out.trans (HB1.out.mono (by omega)),?_⟩
        intro i hi
        by_cases e:i=k
        ·subst e;exact HVV.out
        ·exact HD.out i (by omega)
       case measure=>simp [intOf];omega
     ·have:k=p.bods.length:=by omega
      subst this
      go_wp2
      go_ret
      exact ⟨by rw [prog_yes HV.out l1 l4 (bods_yes HD.out)];rfl,K1.out⟩
   ·have l4':4 < (p.bods.length:Int):=by omega
    have F:Hid (progB p=false):=prog_len (by omega)
    go_enter Tryz.func25,Tryz.ntmps25
    go_wp2_with (go_at_call 37;refine (capsOk_any s c lo hi p.caps _ (H1.out.keep (Keep.of_below KA.out hB)) q1).mono ?_;rintro e w' ⟨rfl,hw⟩;have hw':=hw.symm;clear hw;subst hw';rw [HV.out])
    go_ret
    exact ⟨by rw [F.out];rfl,KA.out⟩
  ·have l1':(p.bods.length:Int) < 1:=by omega
   have F:Hid (progB p=false):=prog_len (by omega)
   go_enter Tryz.func25,Tryz.ntmps25
   go_wp2_with (go_at_call 37;refine (capsOk_any s c lo hi p.caps _ (H1.out.keep (Keep.of_below KA.out hB)) q1).mono ?_;rintro e w' ⟨rfl,hw⟩;have hw':=hw.symm;clear hw;subst hw';rw [HV.out])
   go_ret
   exact ⟨by rw [F.out];rfl,KA.out⟩
end
section
set_option linter.unusedSimpArgs false
set_option linter.unusedVariables false
set_option maxRecDepth 100000
open Go.RowKit
def bodV (p:PD) (b:Int):List I5:=if progB p=true∧0≤b∧b < p.bods.length then p.bods.getD b.toNat [] else []
theorem bodV_rt (p:PD) (b:Int):Rt (bodV p b):=by
 unfold bodV
 split
 ·rename_i h
  exact (progB_body h.1 (by omega)).1
 ·exact rt_nil
theorem bodV_no {p:PD} {b:Int} (h:¬ (progB p=true∧0≤b∧b < p.bods.length)):bodV p b=[]:=by unfold bodV;rw [if_neg h]
theorem bodV_yes {p:PD} {b:Int} (h:progB p=true) (h0:0≤b) (h1:b < p.bods.length):bodV p b=p.bods.getD b.toNat []:=by unfold bodV;rw [if_pos ⟨h,h0,h1⟩]
theorem bods_at {w:World} {lo hi:Nat} {s':Option Addr} {l:List (List I5)} (h:BodsR w lo hi s' l) {i:Nat} (hi':i < l.length):∃ g off,s'=some ⟨g,off,none⟩∧g < hi∧BodR w lo hi g (off+i) (l.getD i []):=by
 rcases h with rfl | ⟨g,off,rfl,_,hg,hc⟩
 ·exact absurd hi' (Nat.not_lt_zero _)
 ·exact ⟨g,off,rfl,hg,hc i hi'⟩
theorem oneOf_is11 (n c:Int) (v:Bool) (w:World) (h:Plain.oneB n c=v):Calls Tryz.prog 12 #[.int .i64 n,.int .i64 c] w fun e w'=>e=.returned (.bool v)∧w'=w:=by
 subst h
 exact isOneOf_any n c w
set_option maxRecDepth 100000 in
set_option maxHeartbeats 2000000 in
theorem bodyOf_any (s s' : Option Addr) (c c' lo hi : Nat) (p : PD) (b : Int) (w : World) (h : ProgR w lo hi s s' p) (hB : hi ≤ w.heap.size) (hf : Fits p) :
  Calls Tryz.prog 16 #[.agg #[.slice s p.caps.length c,.slice s' p.bods.length c'],.int .i64 b] w fun e w'=>(∃ s1 c1,e=.returned (.slice s1 (bodV p b).length c1)∧InsR w' lo hi s1 (bodV p b))∧Below w.heap.size w w':=by
 have HP:=hidP h
 have HF:=hidP hf
 have hfn:=hf.2.1
 clear h hf
 obtain ⟨W,hW,bx,kb,zb⟩:=Bo2.new w (.slice s p.caps.length c) (.slice s' p.bods.length c') 27
 have HB2:=hidP bx
 have HK:=hidP kb
 obtain ⟨x0,x1⟩:=bx
 clear kb
 go_enter Tryz.func16,Tryz.ntmps16
 go_wp2_with fail
 refine (implProg_any s s' c c' lo hi p W (ProgR.keep' HP.out (Keep.of_below HK.out hB)) (by omega) HF.out).mono ?_
 rintro e w1 ⟨rfl,hb1⟩
 have K1:=hidP (HK.out.trans (hb1.mono (by omega)))
 clear x0 x1
 obtain ⟨x0,x1⟩:=HB2.out.keep (Keep.of_below hb1 (by omega))
 have hz1:=hb1.size
 clear hb1
 cases hp:progB p
 ·have E:=hidP (bodV_no (p:=p) (b:=b) (fun h=>by rw [hp] at h;cases h.1))
  clear hp
  go_wp2
  go_ret
  exact ⟨⟨none,0,by rw [E.out];rfl,by rw [E.out];exact .inl rfl⟩,K1.out⟩
 ·have E:=hidP hp
  clear hp
  cases hq:Plain.oneB b p.bods.length
  ·have E2:=hidP (bodV_no (p:=p) (b:=b) (fun h=>by simp only [Plain.oneB,decide_eq_false_iff_not] at hq;exact hq h.2))
   have HQ:=hidP hq
   clear hq
   go_wp2_with (go_at_call 12;refine (oneOf_is11 _ _ false _ HQ.out).mono ?_;rintro e w2 ⟨rfl,rfl⟩)
   go_ret
   exact ⟨⟨none,0,by rw [E2.out];rfl,by rw [E2.out];exact .inl rfl⟩,K1.out⟩
  ·have HQ:=hidP hq
   simp only [Plain.oneB,decide_eq_true_eq] at hq
   obtain ⟨q0,q1⟩:=hq
   obtain ⟨j,rfl⟩:∃ j:Nat,b=j:=⟨b.toNat,by omega⟩
   have E2:=hidP (bodV_yes E.out q0 q1)
   obtain ⟨g,off,rfl,hg,s1,c1,hcell,hin⟩:=bods_at ((ProgR.keep' HP.out (Keep.of_below K1.out hB)).2) (i:=j) (by omega)
   have HIN:=hidP hin
   clear hin
   go_wp2_with (go_at_call 12;refine (oneOf_is11 _ _ true _ HQ.out).mono ?_;rintro e w2 ⟨rfl,rfl⟩)
   go_ret
   refine ⟨⟨s1,c1,by rw [E2.out];rfl,by rw [E2.out];exact HIN.out⟩,K1.out⟩
end
section
set_option linter.unusedSimpArgs false
set_option linter.unusedVariables false
set_option maxRecDepth 100000
open Go.RowKit
def fl5:List I5→List Int
 | []=>[]
 | x::r=>[x.o,x.r,x.a,x.b,x.n]++fl5 r
theorem fl5_len:∀ l:List I5,(fl5 l).length=l.length * 5
 | []=>rfl
 | x::r=>by simp [fl5,fl5_len r];omega
theorem fl5_at:∀ (l:List I5) (i:Nat) (x:I5),l[i]? =some x→(fl5 l)[i * 5]? =some x.o∧(fl5 l)[i * 5+1]? =some x.r∧(fl5 l)[i * 5+2]? =some x.a∧(fl5 l)[i * 5+3]? =some x.b∧(fl5 l)[i * 5+4]? =some x.n
 | [],i,x,h=>by simp at h
 | y::r,0,x,h=>by
  simp at h
  subst h
  exact ⟨rfl,rfl,rfl,rfl,rfl⟩
 | y::r,i+1,x,h=>by
  have h':r[i]? =some x:=by simpa using h
  have e:=fl5_at r i x h'
  have e0:(i+1) * 5=i * 5+5:=by omega
  rw [e0]
  exact e
def OwnT5 (w:World) (base:Nat) (v:Value) (l:List I5):Prop:=w.ownsRow base 65 5 v l.length ((fl5 l).map (Value.int .i64))
theorem fl5_app:∀ (a b:List I5),fl5 (a++b)=fl5 a++fl5 b
 | [],b=>rfl
 | x::r,b=>by simp [fl5,fl5_app r b]
theorem steps_cell {w:World} {g off:Nat} {l:List I5} (hc:∀ i,i < l.length→At5 w g (off+i * 5) (l.getD i z5)) (i:Nat) (hi:i < l.length * 5):w.cell? ⟨g,off+i,none⟩=some (.int .i64 ((fl5 l).getD i 0)):=by
 have hk:i / 5 < l.length:=by omega
 have hx:l[i / 5]? =some (l.getD (i / 5) z5):=by rw [List.getD_eq_getElem?_getD,List.getElem?_eq_getElem hk];rfl
 obtain ⟨c0,c1,c2,c3,c4⟩:=hc (i / 5) hk
 obtain ⟨e0,e1,e2,e3,e4⟩:=fl5_at l (i / 5) _ hx
 rw [List.getD_eq_getElem?_getD]
 rcases (show i % 5=0∨i % 5=1∨i % 5=2∨i % 5=3∨i % 5=4 by omega) with h | h | h | h | h
 ·have e:i=i / 5 * 5:=by omega
  rw [e];rw [e0];exact c0
 ·have e:i=i / 5 * 5+1:=by omega
  rw [e,← Nat.add_assoc];rw [e1];exact c1
 ·have e:i=i / 5 * 5+2:=by omega
  rw [e,← Nat.add_assoc];rw [e2];exact c2
 ·have e:i=i / 5 * 5+3:=by omega
  rw [e,← Nat.add_assoc];rw [e3];exact c3
 ·have e:i=i / 5 * 5+4:=by omega
  rw [e,← Nat.add_assoc];rw [e4];exact c4
theorem infoSt:∃ i,Tryz.prog.info? 65=some i∧i.zero=some (.agg #[.int .i64 0,.int .i64 0,.int .i64 0,.int .i64 0,.int .i64 0])∧i.size=5∧i.bytes=40:=⟨_,rfl,rfl,rfl,rfl⟩
theorem own5_new {w:World} {base:Nat} (L:List I5) (C:Array Value) (hC:C.toList=(fl5 L).map (Value.int .i64)) (hb:base≤w.heap.size) (hn:L.length≤1000):OwnT5 (w.alloc (.cells C 65)) base (.slice (some ⟨w.heap.size,0,none⟩) L.length L.length) L:=by
 have hs:C.size=L.length * 5:=by rw [← Array.length_toList,hC,List.length_map,fl5_len]
 have h:=World.ownsRow_lit (base:=base) (e:=65) (size:=5) w C L.length hb (by unfold maxLen;omega) hs
 rw [hC] at h
 exact h
theorem OwnT5.keep {w w':World} {base:Nat} {v:Value} {L:List I5} (h:OwnT5 w base v L) (hb:Below w.heap.size w w'):OwnT5 w' base v L:=ownKeep' h (fun k hk=>hb.block k (World.ownsRow.lt h _ hk).2)
theorem OwnT5.low {w:World} {b b':Nat} {v:Value} {L:List I5} (h:OwnT5 w b v L) (hb:b'≤b):OwnT5 w b' v L:=ownLow' h hb
theorem OwnT5.lt {w:World} {base g n c:Nat} {L:List I5} (h:OwnT5 w base (.slice (some ⟨g,0,none⟩) n c) L):base≤g∧g < w.heap.size:=World.ownsRow.lt h g rfl
theorem OwnT5.len {w:World} {base g n c:Nat} {L:List I5} (h:OwnT5 w base (.slice (some ⟨g,0,none⟩) n c) L):n=L.length:=by
 rcases h.2 with ⟨h1,h2⟩ | ⟨g',cap,cur,e,-⟩
 ·cases h1
 ·injection e
theorem OwnT5.cellAt {w:World} {base g n c:Nat} {L:List I5} (h:OwnT5 w base (.slice (some ⟨g,0,none⟩) n c) L) {j:Nat} {z:Int} (hz:(fl5 L)[j]? =some z):w.cell? ⟨g,j,none⟩=some (.int .i64 z):=by
 have hj:=(List.getElem?_eq_some_iff.1 hz).1
 rw [fl5_len] at hj
 have e:=h.len
 subst e
 rw [World.ownsRow.cellAt h j (by omega),List.getElem?_map,hz]
 rfl
theorem OwnT5.insR {w:World} {base g n c:Nat} {L:List I5} (h:OwnT5 w base (.slice (some ⟨g,0,none⟩) n c) L):InsR w base w.heap.size (some ⟨g,0,none⟩) L:=by
 refine .inr ⟨g,0,rfl,h.lt.1,h.lt.2,fun i hi=>?_⟩
 have hx:L[i]? =some (L.getD i z5):=by rw [List.getD_eq_getElem?_getD,List.getElem?_eq_getElem hi];rfl
 obtain ⟨e0,e1,e2,e3,e4⟩:=fl5_at L i _ hx
 rw [Nat.zero_add]
 exact ⟨h.cellAt e0,h.cellAt e1,h.cellAt e2,h.cellAt e3,h.cellAt e4⟩
theorem wp5 {o : Oper} {a : Act} {K : Act → World → Prop} {Q : Exit → Act → World → Prop} (s x : Operand) (ho : o.op = .call { callee := .builtin .append, args := #[s, x], argTypes := #[66, 66] })
  (w:World) (base:Nat) (v:Value) (L1:List I5) (hs:a.eval s=v) (hown:OwnT5 w base v L1) (base2 g2 n2 c2:Nat) (L2:List I5) (hx:a.eval x=.slice (some ⟨g2,0,none⟩) n2 c2) (h2:OwnT5 w base2 (.slice (some ⟨g2,0,none⟩) n2 c2) L2) (hl2:L2.length=n2)
  (hl:0 < n2) (hn:L1.length+n2≤1000) (N:Nat) (hN:L1.length+n2=N) (hbase:base≤w.heap.size)
  (h:∀ g c w',OwnT5 w' base (.slice (some ⟨g,0,none⟩) N c) (L1++L2)→Below base w w'→K (a.put o.dst (.slice (some ⟨g,0,none⟩) N c)) w'):Oper.wp Tryz.prog o a w K Q:=by
 obtain ⟨i0,hi0,hz0,hz1,hz2⟩:=infoSt
 subst hN hl2
 refine wp_append_lies w s x 66 ho base 65 i0 _ 5 40 Tryz.underlying66 hi0 hz0 hz1 hz2 rfl (by decide) v L1.length _ hs hown ⟨g2,0,none⟩ L2.length c2 ((fl5 L2).map (Value.int .i64)) hx (by rw [List.length_map,fl5_len]) (fun j u hj=>?_) (fun u hu=>by obtain ⟨z,-,rfl⟩:=List.mem_map.1 hu;rfl) hl (by unfold maxLen;omega) (by omega) hbase _ rfl ?_
 ·rw [List.getElem?_map] at hj
  obtain ⟨z,hz,rfl⟩:=Option.map_eq_some_iff.1 hj
  have ea:Addr.add ⟨g2,0,none⟩ j=⟨g2,j,none⟩:=by
   by_cases h:j=0
   ·subst h;rfl
   ·simp [Addr.add,h]
  rw [ea]
  exact h2.cellAt hz
 intro g cap w' q1 q2 q3 q4
 refine h g cap w' ?_ (Below.grown (Below.refl _ _) q2 hbase (fun j hj=>(World.ownsRow.lt hown _ hj).1))
 show w'.ownsRow base 65 5 _ (L1++L2).length ((fl5 (L1++L2)).map (Value.int .i64))
 rw [fl5_app,List.map_append,List.length_append]
 exact q1
theorem app5 {ops : Array Oper} {rest : List Oper} {o : Oper} {a : Act} {Q : Exit → Act → World → Prop} (hgd : o.guard = none) (s x : Operand) (ho : o.op = .call { callee := .builtin .append, args := #[s, x], argTypes := #[66, 66] })
  (w:World) (base:Nat) (v:Value) (L1:List I5) (hs:a.eval s=v) (hown:OwnT5 w base v L1) (base2 g2 n2 c2:Nat) (L2:List I5) (hx:a.eval x=.slice (some ⟨g2,0,none⟩) n2 c2) (h2:OwnT5 w base2 (.slice (some ⟨g2,0,none⟩) n2 c2) L2) (hl2:L2.length=n2)
  (hl:0 < n2) (hn:L1.length+n2≤1000) (N:Nat) (hN:L1.length+n2=N) (hbase:base≤w.heap.size)
  (h:∀ g c w',OwnT5 w' base (.slice (some ⟨g,0,none⟩) N c) (L1++L2)→Below base w w'→wpList Tryz.prog ops Q rest (a.put o.dst (.slice (some ⟨g,0,none⟩) N c)) w'):wpList Tryz.prog ops Q (o::rest) a w:=
 wpList_plain hgd fun _ hK=>wp5 s x ho w base v L1 hs hown base2 g2 n2 c2 L2 hx h2 hl2 hl hn N hN hbase fun g c w' h1 h2=>hK _ _ (h g c w' h1 h2)
theorem step5 {ops : Array Oper} {o : Oper} {a : Act} {K : Act → World → Prop} {Q : Exit → Act → World → Prop} {E : Prop} (hgd : o.guard = none) (s x : Operand) (ho : o.op = .call { callee := .builtin .append, args := #[s, x], argTypes := #[66, 66] })
  (w:World) (base:Nat) (v:Value) (L1:List I5) (hs:a.eval s=v) (hown:OwnT5 w base v L1) (base2 g2 n2 c2:Nat) (L2:List I5) (hx:a.eval x=.slice (some ⟨g2,0,none⟩) n2 c2) (h2:OwnT5 w base2 (.slice (some ⟨g2,0,none⟩) n2 c2) L2) (hl2:L2.length=n2)
  (hl:0 < n2) (hn:L1.length+n2≤1000) (N:Nat) (hN:L1.length+n2=N) (hbase:base≤w.heap.size)
  (h:∀ g c w',OwnT5 w' base (.slice (some ⟨g,0,none⟩) N c) (L1++L2)→Below base w w'→K (a.put o.dst (.slice (some ⟨g,0,none⟩) N c)) w'):if Region.wanted o (yielded ops a.tmps)=true then Oper.wp Tryz.prog o a w K Q else E:=by
 have hw:Region.wanted o (yielded ops a.tmps)=true:=by simp [Region.wanted,hgd]
 rw [if_pos hw]
 exact wp5 s x ho w base v L1 hs hown base2 g2 n2 c2 L2 hx h2 hl2 hl hn N hN hbase h
def ad (f k:Int):Int:=wrap64 (f+k)
end
section
set_option linter.unusedSimpArgs false
set_option linter.unusedVariables false
set_option maxRecDepth 100000
open Go.RowKit
theorem sLoad (r c:Int) (w:World):Calls Tryz.prog 105 #[.int .i64 r,.int .i64 c] w fun e w'=>e=.returned (.agg #[.int .i64 5,.int .i64 r,.int .i64 (-1),.int .i64 0,.int .i64 c])∧Below w.heap.size w w':=by
 go_enter Tryz.func105,Tryz.ntmps105
 go_wp2
 exact bodyPost_ret (v:=.agg #[.int .i64 5,.int .i64 r,.int .i64 (-1),.int .i64 0,.int .i64 c]) (by simp [results,Tryz.results105,go_sem]) rfl ⟨rfl,(Below.refl _ _).alloc (Nat.le_refl _) _⟩
theorem sStore (c b:Int) (w:World):Calls Tryz.prog 106 #[.int .i64 c,.int .i64 b] w fun e w'=>e=.returned (.agg #[.int .i64 6,.int .i64 0,.int .i64 (-1),.int .i64 b,.int .i64 c])∧Below w.heap.size w w':=by
 go_enter Tryz.func106,Tryz.ntmps106
 go_wp2
 exact bodyPost_ret (v:=.agg #[.int .i64 6,.int .i64 0,.int .i64 (-1),.int .i64 b,.int .i64 c]) (by simp [results,Tryz.results106,go_sem]) rfl ⟨rfl,(Below.refl _ _).alloc (Nat.le_refl _) _⟩
theorem sSet (r n:Int) (w:World):Calls Tryz.prog 76 #[.int .i64 r,.int .i64 n] w fun e w'=>e=.returned (.agg #[.int .i64 1,.int .i64 r,.int .i64 0,.int .i64 0,.int .i64 n])∧Below w.heap.size w w':=by
 go_enter Tryz.func76,Tryz.ntmps76
 go_wp2
 exact bodyPost_ret (v:=.agg #[.int .i64 1,.int .i64 r,.int .i64 0,.int .i64 0,.int .i64 n]) (by simp [results,Tryz.results76,go_sem]) rfl ⟨rfl,(Below.refl _ _).alloc (Nat.le_refl _) _⟩
theorem sZero (a t:Int) (w:World):Calls Tryz.prog 79 #[.int .i64 a,.int .i64 t] w fun e w'=>e=.returned (.agg #[.int .i64 11,.int .i64 0,.int .i64 a,.int .i64 0,.int .i64 t])∧Below w.heap.size w w':=by
 go_enter Tryz.func79,Tryz.ntmps79
 go_wp2
 exact bodyPost_ret (v:=.agg #[.int .i64 11,.int .i64 0,.int .i64 a,.int .i64 0,.int .i64 t]) (by simp [results,Tryz.results79,go_sem]) rfl ⟨rfl,(Below.refl _ _).alloc (Nat.le_refl _) _⟩
theorem sJump (t:Int) (w:World):Calls Tryz.prog 78 #[.int .i64 t] w fun e w'=>e=.returned (.agg #[.int .i64 10,.int .i64 0,.int .i64 0,.int .i64 0,.int .i64 t])∧Below w.heap.size w w':=by
 go_enter Tryz.func78,Tryz.ntmps78
 go_wp2
 exact bodyPost_ret (v:=.agg #[.int .i64 10,.int .i64 0,.int .i64 0,.int .i64 0,.int .i64 t]) (by simp [results,Tryz.results78,go_sem]) rfl ⟨rfl,(Below.refl _ _).alloc (Nat.le_refl _) _⟩
theorem sThree (o r a b:Int) (w:World):Calls Tryz.prog 77 #[.int .i64 o,.int .i64 r,.int .i64 a,.int .i64 b] w fun e w'=>e=.returned (.agg #[.int .i64 o,.int .i64 r,.int .i64 a,.int .i64 b,.int .i64 0])∧Below w.heap.size w w':=by
 go_enter Tryz.func77,Tryz.ntmps77
 go_wp2
 exact bodyPost_ret (v:=.agg #[.int .i64 o,.int .i64 r,.int .i64 a,.int .i64 b,.int .i64 0]) (by simp [results,Tryz.results77,go_sem]) rfl ⟨rfl,(Below.refl _ _).alloc (Nat.le_refl _) _⟩
end
section
set_option linter.unusedSimpArgs false
set_option linter.unusedVariables false
set_option maxRecDepth 100000
open Go.RowKit
theorem hid_of {p:Prop} (h:p):Hid p:=h
end
section
set_option linter.unusedSimpArgs false
set_option linter.unusedVariables false
set_option maxRecDepth 100000
open Go.RowKit
def lockR (b:Int):List I5:=[⟨1,7,0,0,1⟩,⟨8,6,0,7,b⟩,⟨11,0,6,0,1⟩,⟨10,0,0,0,0⟩]
def letR (b:Int):List I5:=[⟨1,7,0,0,0⟩,⟨7,0,-1,7,b⟩]
def askR (b p:Int):List I5:=[⟨5,4,-1,0,b+3⟩,⟨11,0,4,0,p⟩]
def faultR (b:Int):List I5:=letR b++[⟨13,0,0,0,0⟩]
def triedR (r h:Int):List I5:=[⟨1,r,0,0,h⟩,⟨10,0,0,0,-1⟩]
def cameR (r x v h:Int):List I5:=[⟨1,r,0,0,v⟩,⟨1,x,0,0,h⟩,⟨10,0,0,0,-1⟩]
end
section
set_option linter.unusedSimpArgs false
set_option linter.unusedVariables false
set_option maxRecDepth 100000
open Go.RowKit
theorem calls_new {f : Nat} {args : Array Value} {w : World} {C : Array Value} {post : Ending → World → Prop} (L : List I5) (base n : Nat) (hC : C.toList = (fl5 L).map (Value.int .i64)) (hn : L.length = n) (hn' : n ≤ 1000) (hb : base ≤ w.heap.size)
  (h:∀ W,OwnT5 W base (.slice (some ⟨w.heap.size,0,none⟩) n n) L→Below w.heap.size w W→W.heap.size=w.heap.size+1→Calls Tryz.prog f args W post):Calls Tryz.prog f args (w.alloc (.cells C 65)) post:=by
 subst hn
 exact h _ (own5_new L C hC hb hn') ((Below.refl _ _).alloc (Nat.le_refl _) _) (by simp)
end
end Go.Proofs.YtkhjhibigldcgaaGreat
