/- A step keeps a source small. Runs of a source: a step keeps it right; rows of picks, and rounds. No condition. What a turn's plain doings make of it: registers, jumps, an end. No condition. -/
import Derived.Test.YtknffngbdakblaaGreatJG00
import Derived.Test.YtknffngbdakblaaGreatJG07
import Derived.Test.YtknffngbdakblaaGreatJG06
import Derived.Test.YtknffngbdakblaaGreatJG01
import Derived.Test.YtknffngbdakblaaGreatJChTake
import Derived.Test.YtknffngbdakblaaGreatJG04
import Derived.Test.YtknffngbdakblaaGreatJG11
import Derived.Test.YtknffngbdakblaaGreatJG09
import Derived.Test.YtknffngbdakblaaGreatJG08
import Derived.Test.YtknffngbdakblaaGreatJG10
import Derived.Deep.RegionHeld3
import Derived.Deep.DeepCutAuto
namespace Go.Proofs.YtknffngbdakblaaGreat
section
set_option linter.unusedSimpArgs false
set_option linter.unusedVariables false
set_option maxRecDepth 100000
open Go.RowKit
theorem moveT_regs (t:TD) (b:Nat) (rg:List Int) (nx:Int):(moveT t b rg nx).regs=rg:=by unfold moveT;split<;>rfl
theorem putN_len (l:List Int) (r v:Int):(putN l r v).length=l.length:=by unfold putN;simp
theorem sendL_len (cap:Int) (l:List Int) (cl:Bool) (v:Int):(sendL cap l cl v).length≤l.length+1:=by
 unfold sendL
 split<;>simp
theorem takeL_len (cap:Int) (l:List Int):(takeL cap l).length≤l.length:=by
 unfold takeL
 split<;>simp
theorem getD_small {chs:List CD} {M:Nat} (hc:∀ (i:Nat) (c:CD),chs[i]? =some c→c.list.length≤M) (n:Nat):(chs.getD n zc).list.length≤M:=by
 rw [List.getD_eq_getElem?_getD]
 cases h:chs[n]? with
 | none=>exact Nat.zero_le _
 | some c=>exact hc n c h
theorem set_small {chs:List CD} {M:Nat} (hc:∀ (i:Nat) (c:CD),chs[i]? =some c→c.list.length≤M) (n:Nat) (y:CD) (hy:y.list.length≤M+1):∀ (i:Nat) (c:CD),(chs.set n y)[i]? =some c→c.list.length≤M+1:=by
 intro i c h
 rw [List.getElem?_set] at h
 split at h
 ·split at h
  ·injection h with h
   subst h
   exact hy
  ·cases h
 ·exact Nat.le_succ_of_le (hc i c h)
structure Sm (t:TD) (chs:List CD) (tr:List ND) (M:Nat) (o:Out):Prop where
 a:o.t.regs.length=t.regs.length
 b:o.tr.length≤tr.length+1
 c:o.chs.length=chs.length
 d:∀ (i:Nat) (c:CD),o.chs[i]? =some c→c.list.length≤M+1
theorem sm_ite {t:TD} {chs:List CD} {tr:List ND} {M:Nat} {c:Prop} [Decidable c] {x y:Out} (h1:Sm t chs tr M x) (h2:Sm t chs tr M y):Sm t chs tr M (if c then x else y):=by
 by_cases h:c
 ·rw [if_pos h];exact h1
 ·rw [if_neg h];exact h2
theorem stepO_small (b:Nat) (t:TD) (x:I5) (chs:List CD) (tr:List ND) (k M:Nat) (hc:∀ (i:Nat) (c:CD),chs[i]? =some c→c.list.length≤M):Sm t chs tr M (stepO b t x chs tr k):=by
 have g:=getD_small hc x.n.toNat
 have hc':∀ (i:Nat) (c:CD),chs[i]? =some c→c.list.length≤M+1:=fun i c h=>Nat.le_succ_of_le (hc i c h)
 have s1:∀ v,(sendL (chs.getD x.n.toNat zc).cap (chs.getD x.n.toNat zc).list (chs.getD x.n.toNat zc).cl v).length≤M+1:=fun v=>Nat.le_trans (sendL_len _ _ _ _) (Nat.succ_le_succ g)
 have s2:(takeL (chs.getD x.n.toNat zc).cap (chs.getD x.n.toNat zc).list).length≤M+1:=Nat.le_trans (takeL_len _ _) (Nat.le_succ_of_le g)
 have s3:(chs.getD x.n.toNat zc).list.length≤M+1:=Nat.le_succ_of_le g
 unfold stepO
 dsimp only
 repeat' (refine sm_ite ?_ ?_)
 all_goals
  refine ⟨?_,?_,?_,?_⟩
  ·first | rfl | simp only [moveT_regs,putN_len]
  ·first | exact Nat.le_succ _ | simp
  ·first | rfl | exact List.length_set
  ·first | exact hc' | exact set_small hc _ _ (s1 _) | exact set_small hc _ _ s2 | exact set_small hc _ _ s3
theorem stepS_fits {p:PD} {d:SD} (hf:SFits d) (hR:Right p d) (who:Int):SFits (stepS p d who):=by
 unfold stepS
 split
 ·rename_i h
  obtain ⟨q1,q2,q3,q4⟩:=stepO_small (bodyOf p who.toNat).length (thOf d who.toNat) (insOf p d who.toNat) d.chs d.tr who.toNat 4 (fun i c hc=>(hR.ch i c hc).2)
  have e:(thOf d who.toNat).regs.length≤4:=by
   unfold thOf
   rw [List.getD_eq_getElem?_getD]
   cases ht:d.ths[who.toNat]? with
   | none=>exact Nat.zero_le _
   | some t=>exact Nat.le_of_eq (hR.th _ _ ht).1
  refine ⟨⟨by show (d.ths.set _ _).length≤_;rw [List.length_set];exact hf.1.1,fun i t ht=>?_⟩,⟨?_,fun i c hc=>?_⟩,?_⟩
  ·have ht':(d.ths.set who.toNat (outOf p d who.toNat).t)[i]? =some t:=ht
   rw [List.getElem?_set] at ht'
   split at ht'
   ·split at ht'
    ·injection ht' with ht'
     subst ht'
     show (stepO _ _ _ _ _ _).t.regs.length≤_
     rw [q1]
     omega
    ·cases ht'
   ·exact hf.1.2 i t ht'
  ·show (stepO _ _ _ _ _ _).chs.length≤_
   rw [q3]
   exact hf.2.1.1
  ·exact Nat.le_trans (q4 i c hc) (by omega)
  ·show (stepO _ _ _ _ _ _).tr.length≤_
   have:=hR.nl
   omega
 ·exact hf
theorem stepSb_fits {p:PD} {d:SD} (hf:SFits d) (who:Int):SFits (stepSb p d who):=by
 unfold stepSb
 split
 ·rename_i h
  exact stepS_fits hf (right_of h) who
 ·exact ⟨⟨Nat.zero_le _,fun i t h=>by simp at h⟩,⟨Nat.zero_le _,fun i t h=>by simp at h⟩,Nat.zero_le _⟩
end
section
set_option linter.unusedSimpArgs false
set_option linter.unusedVariables false
set_option maxRecDepth 100000
open Go.RowKit
theorem thB_move {t:TD} {b:Nat} {rg:List Int} {nx:Int} (h4:rg.length=4) (ht:thB t b=true):thB (moveT t b rg nx) b=true:=by
 unfold moveT
 split
 ·rename_i h
  unfold thB Plain.inB Plain.oneB
  simp only [Bool.and_eq_true,decide_eq_true_eq]
  exact ⟨h4,⟨by omega,by omega⟩,h⟩
 ·unfold thB Plain.inB Plain.oneB at ht ⊢
  simp only [Bool.and_eq_true,decide_eq_true_eq] at ht ⊢
  exact ⟨h4,⟨by omega,by omega⟩,ht.2.2⟩
theorem thB_halt {t:TD} {b:Nat} {s:Int} (hs:0≤s∧s≤2) (ht:thB t b=true):thB (haltT t s) b=true:=by
 unfold haltT
 unfold thB Plain.inB Plain.oneB at ht ⊢
 simp only [Bool.and_eq_true,decide_eq_true_eq] at ht ⊢
 exact ⟨ht.1,hs,ht.2.2⟩
theorem thB_len {t:TD} {b:Nat} (ht:thB t b=true):t.regs.length=4:=by
 unfold thB at ht
 simp only [Bool.and_eq_true,decide_eq_true_eq] at ht
 exact ht.1
theorem chB_send {c:CD} {cap:Int} (v:Int) (h:chB c cap=true):chB ⟨c.cap,sendL c.cap c.list c.cl v,c.cl⟩ cap=true:=by
 unfold chB at h ⊢
 simp only [Bool.and_eq_true,decide_eq_true_eq] at h ⊢
 refine ⟨⟨h.1.1,?_⟩,h.2⟩
 unfold sendL
 split
 ·rename_i q
  simp only [List.length_append,List.length_cons,List.length_nil]
  omega
 ·exact h.1.2
theorem chB_take {c:CD} {cap:Int} (h:chB c cap=true):chB ⟨c.cap,takeL c.cap c.list,c.cl⟩ cap=true:=by
 unfold chB at h ⊢
 simp only [Bool.and_eq_true,decide_eq_true_eq] at h ⊢
 refine ⟨⟨h.1.1,?_⟩,h.2⟩
 have:=takeL_len c.cap c.list
 have:=h.1.2
 show ((takeL c.cap c.list).length:Int)≤c.cap
 omega
theorem chB_shut {c:CD} {cap:Int} (b:Bool) (h:chB c cap=true):chB ⟨c.cap,c.list,b⟩ cap=true:=h
theorem chs_set {chs:List CD} {caps:List Int} (hc:∀ (i:Nat) (c:CD),chs[i]? =some c→chB c (caps.getD i 0)=true) (n:Nat) (y:CD) (hy:chB (chs.getD n zc) (caps.getD n 0)=true→chB y (caps.getD n 0)=true):∀ (i:Nat) (c:CD),(chs.set n y)[i]? =some c→chB c (caps.getD i 0)=true:=by
 intro i c h
 rcases set_at h with ⟨rfl,rfl,hl⟩ | ⟨-,h⟩
 ·refine hy ?_
  have:=hc i _ (List.getElem?_eq_getElem hl)
  rw [List.getD_eq_getElem?_getD,List.getElem?_eq_getElem hl]
  exact this
 ·exact hc i c h
structure Ko (b:Nat) (caps:List Int) (n m:Nat) (o:Out):Prop where
 a:thB o.t b=true
 b:o.chs.length=m
 c:∀ (i:Nat) (c:CD),o.chs[i]? =some c→chB c (caps.getD i 0)=true
 d:o.tr.length≤4000∧∀ (i:Nat) (z:ND),o.tr[i]? =some z→Plain.oneB z.who n=true
theorem ko_ite {b n m:Nat} {caps:List Int} {c:Prop} [Decidable c] {x y:Out} (h1:c→Ko b caps n m x) (h2:¬ c→Ko b caps n m y):Ko b caps n m (if c then x else y):=by
 by_cases h:c
 ·rw [if_pos h];exact h1 h
 ·rw [if_neg h];exact h2 h
theorem tr_add {tr:List ND} {n k:Nat} {v:Int} (h:tr.length≤4000∧∀ (i:Nat) (z:ND),tr[i]? =some z→Plain.oneB z.who n=true) (hk:k < n) (hne:¬ tr.length=4000):(tr++[(⟨(k:Int),v⟩:ND)]).length≤4000∧∀ (i:Nat) (z:ND),(tr++[(⟨(k:Int),v⟩:ND)])[i]? =some z→Plain.oneB z.who n=true:=by
 refine ⟨by simp;omega,fun i z hz=>?_⟩
 by_cases hi:i < tr.length
 ·rw [List.getElem?_append_left hi] at hz
  exact h.2 i z hz
 ·rw [List.getElem?_append_right (by omega)] at hz
  have:i - tr.length=0:=by
   have:=(List.getElem?_eq_some_iff.1 hz).1
   simpa using this
  rw [this] at hz
  simp at hz
  subst hz
  unfold Plain.oneB
  simp
  omega
theorem stepO_ko (b:Nat) (t:TD) (x:I5) (chs:List CD) (tr:List ND) (k n:Nat) (caps:List Int) (ht:thB t b=true) (hc:∀ (i:Nat) (c:CD),chs[i]? =some c→chB c (caps.getD i 0)=true) (hn:tr.length≤4000∧∀ (i:Nat) (z:ND),tr[i]? =some z→Plain.oneB z.who n=true) (hk:k < n):Ko b caps n chs.length (stepO b t x chs tr k):=by
 have h4:=thB_len ht
 have S1:∀ (v:Int) (i:Nat) (c:CD),(chs.set x.n.toNat ⟨(chs.getD x.n.toNat zc).cap,sendL (chs.getD x.n.toNat zc).cap (chs.getD x.n.toNat zc).list (chs.getD x.n.toNat zc).cl v,(chs.getD x.n.toNat zc).cl⟩)[i]? =some c→chB c (caps.getD i 0)=true:=fun v=>chs_set hc _ _ (chB_send (c:=chs.getD x.n.toNat zc) v)
 have S2:∀ (i:Nat) (c:CD),(chs.set x.n.toNat ⟨(chs.getD x.n.toNat zc).cap,takeL (chs.getD x.n.toNat zc).cap (chs.getD x.n.toNat zc).list,(chs.getD x.n.toNat zc).cl⟩)[i]? =some c→chB c (caps.getD i 0)=true:=chs_set hc _ _ (chB_take (c:=chs.getD x.n.toNat zc))
 have S3:∀ (b:Bool) (i:Nat) (c:CD),(chs.set x.n.toNat ⟨(chs.getD x.n.toNat zc).cap,(chs.getD x.n.toNat zc).list,b⟩)[i]? =some c→chB c (caps.getD i 0)=true:=fun b=>chs_set hc _ _ (chB_shut (c:=chs.getD x.n.toNat zc) b)
 unfold stepO
 dsimp only
 repeat' (refine ko_ite (fun _=>?_) (fun _=>?_))
 all_goals
  refine ⟨?_,?_,?_,?_⟩
  ·first | with_reducible exact ht | with_reducible exact thB_halt (by decide) ht | with_reducible exact thB_move h4 ht | exact thB_move (by simp only [putN_len];exact h4) ht
  ·first | rfl | exact List.length_set
  ·first | with_reducible exact hc | with_reducible exact S1 _ | with_reducible exact S2 | with_reducible exact S3 _
  ·first | exact hn | exact tr_add hn hk (by assumption)
theorem srcB_step {p:PD} {d:SD} (h:srcB p d=true) (who:Int):srcB p (stepS p d who)=true:=by
 have hR:=right_of h
 unfold stepS
 split
 ·rename_i hk
  have hw:0≤who∧who < d.ths.length:=by
   by_cases hw:0≤who∧who < d.ths.length
   ·exact hw
   ·unfold stepK at hk
    rw [if_neg hw] at hk
    cases hk
  obtain ⟨k,rfl⟩:∃ k:Nat,who=(k:Int):=⟨who.toNat,by omega⟩
  rw [Int.toNat_natCast]
  have hl:k < d.ths.length:=by omega
  unfold srcB at h ⊢
  rw [Bool.and_eq_true,Bool.and_eq_true,Bool.and_eq_true] at h ⊢
  obtain ⟨h1,h2,h3,h4⟩:=h
  unfold thsB at h2 ⊢
  unfold chsB at h3 ⊢
  unfold trB at h4 ⊢
  rw [Bool.and_eq_true] at h2 h3 h4 ⊢
  rw [Bool.and_eq_true,Bool.and_eq_true]
  obtain ⟨t1,t2⟩:=h2
  obtain ⟨c1,c2⟩:=h3
  obtain ⟨n1,n2⟩:=h4
  have t1:=of_decide_eq_true t1
  have c1:=of_decide_eq_true c1
  have n1:=of_decide_eq_true n1
  have et:d.ths[k]? =some (thOf d k):=by unfold thOf;rw [List.getD_eq_getElem?_getD,List.getElem?_eq_getElem hl];rfl
  obtain ⟨q1,q2,q3,q4,q5⟩:=stepO_ko (bodyOf p k).length (thOf d k) (insOf p d k) d.chs d.tr k p.bods.length p.caps (all_get t2 k _ et) (all_get c2) ⟨n1,all_get n2⟩ (by omega)
  refine ⟨h1,⟨decide_eq_true (by show (d.ths.set _ _).length=_;rw [List.length_set];exact t1),all_yes fun i t ht=>?_⟩,⟨decide_eq_true (by show (outOf p d k).chs.length=_;exact q2.trans c1),all_yes q3⟩,⟨decide_eq_true q4,all_yes q5⟩⟩
  rcases set_at ht with ⟨rfl,rfl,-⟩ | ⟨-,ht⟩
  ·exact q1
  ·exact all_get t2 i t ht
 ·exact h
theorem stepS_no {p:PD} {d:SD} {who:Int} (h:¬ stepK p d who=0):stepS p d who=d:=by unfold stepS;rw [if_neg h]
theorem stepKb_of {p:PD} {d:SD} (h:srcB p d=true) (who:Int):stepKb p d who=stepK p d who:=by unfold stepKb;rw [h];rfl
theorem stepSb_of {p:PD} {d:SD} (h:srcB p d=true) (who:Int):stepSb p d who=stepS p d who:=by unfold stepSb;rw [h];rfl
/- a row of picks -/
def pkD (p:PD):SD→List Int→SD
 | d,[]=>d
 | d,k::r=>pkD p (stepS p d k) r
def pkC (p:PD):SD→List Int→List Int
 | _,[]=>[]
 | d,k::r=>stepK p d k::pkC p (stepS p d k) r
theorem pkD_snoc (p:PD) (k:Int):∀ (l:List Int) (d:SD),pkD p d (l++[k])=stepS p (pkD p d l) k
 | [],_=>rfl
 | x::r,d=>pkD_snoc p k r (stepS p d x)
theorem pkC_snoc (p:PD) (k:Int):∀ (l:List Int) (d:SD),pkC p d (l++[k])=pkC p d l++[stepK p (pkD p d l) k]
 | [],_=>rfl
 | x::r,d=>by
  show stepK p d x::pkC p (stepS p d x) (r++[k])=_
  rw [pkC_snoc p k r (stepS p d x)]
  rfl
theorem pkC_len (p:PD):∀ (l:List Int) (d:SD),(pkC p d l).length=l.length
 | [],_=>rfl
 | x::r,d=>by
  show (stepK p d x::pkC p (stepS p d x) r).length=_
  simp [pkC_len p r (stepS p d x)]
theorem pkD_ok {p:PD}:∀ (l:List Int) {d:SD},srcB p d=true→srcB p (pkD p d l)=true
 | [],_,h=>h
 | x::r,_,h=>pkD_ok r (srcB_step h x)
theorem pkD_fits {p:PD}:∀ (l:List Int) {d:SD},srcB p d=true→SFits d→SFits (pkD p d l)
 | [],_,_,h=>h
 | x::r,_,h,hf=>pkD_fits r (srcB_step h x) (stepS_fits hf (right_of h) x)
theorem take_one {l:List Int} {k:Nat} {x:Int} (h:l[k]? =some x):l.take (k+1)=l.take k++[x]:=by rw [List.take_add_one,h];rfl
/- rounds -/
def go1 (p:PD) (x:SD×Nat) (k:Nat):SD×Nat:=(stepS p x.1 k,if stepK p x.1 k=0 then x.2+1 else x.2)
def goN (p:PD) (x:SD×Nat):Nat→SD×Nat
 | 0=>x
 | k+1=>go1 p (goN p x k) k
def rdN (p:PD) (n:Nat) (x:SD×Nat):Nat→SD×Nat
 | 0=>x
 | r+1=>goN p (rdN p n x r) n
theorem goN_ok {p:PD} {x:SD×Nat} (h:srcB p x.1=true):∀ k,srcB p (goN p x k).1=true
 | 0=>h
 | k+1=>srcB_step (goN_ok h k) k
theorem rdN_ok {p:PD} {n:Nat} {x:SD×Nat} (h:srcB p x.1=true):∀ r,srcB p (rdN p n x r).1=true
 | 0=>h
 | r+1=>goN_ok (rdN_ok h r) n
theorem goN_fits {p:PD} {x:SD×Nat} (h:srcB p x.1=true) (hf:SFits x.1):∀ k,SFits (goN p x k).1
 | 0=>hf
 | k+1=>stepS_fits (goN_fits h hf k) (right_of (goN_ok h k)) k
theorem rdN_fits {p:PD} {n:Nat} {x:SD×Nat} (h:srcB p x.1=true) (hf:SFits x.1):∀ r,SFits (rdN p n x r).1
 | 0=>hf
 | r+1=>goN_fits (rdN_ok h r) (rdN_fits h hf r) n
theorem goN_le (p:PD) (x:SD×Nat):∀ k,(goN p x k).2≤x.2+k
 | 0=>Nat.le_refl _
 | k+1=>by
  have:=goN_le p x k
  show (go1 p (goN p x k) k).2≤x.2+(k+1)
  unfold go1
  dsimp only
  split<;>omega
theorem rdN_le (p:PD) (n:Nat) (x:SD×Nat):∀ r,(rdN p n x r).2≤x.2+r * n
 | 0=>by simp [rdN]
 | r+1=>by
  have h1:=rdN_le p n x r
  have h2:=goN_le p (rdN p n x r) n
  have h3:(r+1) * n=r * n+n:=Nat.succ_mul r n
  show (goN p (rdN p n x r) n).2≤_
  omega
theorem srcB_ths {p:PD} {d:SD} (h:srcB p d=true):d.ths.length=p.bods.length∧p.bods.length≤4:=⟨(right_of h).tl,(right_of h).pb⟩
/- Fair -/
def rounds (r:Int):Nat:=(min r 200).toNat
theorem rounds_le (r:Int):rounds r≤200:=by unfold rounds;omega
noncomputable def fairX (p:PD) (d:SD) (r:Int):SD×Nat:=rdN p p.bods.length (d,0) (rounds r)
noncomputable def fairKb (p:PD) (d:SD) (r:Int):Int:=if srcB p d=true then ((fairX p d r).2:Int) else 0
noncomputable def fairSb (p:PD) (d:SD) (r:Int):SD:=if srcB p d=true then (fairX p d r).1 else ⟨[],[],[]⟩
theorem fairSb_fits {p:PD} {d:SD} (hf:SFits d) (r:Int):SFits (fairSb p d r):=by
 unfold fairSb
 split
 ·rename_i h
  exact rdN_fits (x:=(d,0)) h hf _
 ·exact ⟨⟨Nat.zero_le _,fun i t h=>by simp at h⟩,⟨Nat.zero_le _,fun i t h=>by simp at h⟩,Nat.zero_le _⟩
end
section
set_option linter.unusedSimpArgs false
set_option linter.unusedVariables false
set_option maxRecDepth 100000
open Go.RowKit
theorem heap_pairS {w V:World} {b g j:Nat} {u:Value} (h:V.heap[b]? =w.heap[b]?):(V.setCell ⟨g,j,none⟩ u).heap[b]? =(w.setCell ⟨g,j,none⟩ u).heap[b]? :=by
 simp only [World.setCell,Array.getElem?_modify,h]
theorem belowP {w V:World} {B g j:Nat} {u:Value} (h:Below B w V):Below B (w.setCell ⟨g,j,none⟩ u) (V.setCell ⟨g,j,none⟩ u):=
 ⟨h.os,h.tape,h.output,by simpa using h.size,fun b hb=>heap_pairS (h.block b hb)⟩
/- the box of a turn -/
structure Tn (w:World) (b S:Nat) (who pc nx st:Int) (rg:List Int):Prop where
 c0:w.cell? ⟨b,0,none⟩=some (.pointer (some ⟨S,0,none⟩))
 c1:w.cell? ⟨b,1,none⟩=some (.int .i64 who)
 c2:w.cell? ⟨b,2,none⟩=some (.int .i64 pc)
 c3:w.cell? ⟨b,3,none⟩=some (.int .i64 nx)
 c4:w.cell? ⟨b,4,none⟩=some (.int .i64 st)
 r:∀ i,i < 4→w.cell? ⟨b,5+i,none⟩=some (.int .i64 (rg.getD i 0))
 f:∀ j,w.frozen? ⟨b,j,none⟩=false
 z:b < w.heap.size
 l:rg.length=4
theorem Tn.same {w w':World} {b S:Nat} {who pc nx st:Int} {r:List Int} (h:Tn w b S who pc nx st r) (e:w'.heap[b]? =w.heap[b]?) (hs:w.heap.size≤w'.heap.size):Tn w' b S who pc nx st r:=by
 have c:∀ j,w'.cell? ⟨b,j,none⟩=w.cell? ⟨b,j,none⟩:=fun j=>World.cell?_of_block e
 exact ⟨(c _).trans h.c0,(c _).trans h.c1,(c _).trans h.c2,(c _).trans h.c3,(c _).trans h.c4,fun i hi=>(c _).trans (h.r i hi),fun j=>(World.frozen?_of_block e).trans (h.f j),by have:=h.z;omega,h.l⟩
theorem Tn.below {w w':World} {b S B:Nat} {who pc nx st:Int} {r:List Int} (h:Tn w b S who pc nx st r) (hb:Below B w w') (hB:b < B):Tn w' b S who pc nx st r:=h.same (hb.block b hB) hb.size
theorem Tn.reg {w:World} {b S:Nat} {who pc nx st:Int} {r:List Int} (h:Tn w b S who pc nx st r) (i:Nat) (hi:i < 4) (v:Int):Tn (w.setCell ⟨b,5+i,none⟩ (.int .i64 v)) b S who pc nx st (r.set i v):=by
 have hl:=h.l
 refine ⟨(setC_off (by omega)).trans h.c0,(setC_off (by omega)).trans h.c1,(setC_off (by omega)).trans h.c2,(setC_off (by omega)).trans h.c3,(setC_off (by omega)).trans h.c4,fun j hj=>?_,fun j=>by rw [World.frozen?_setCell];exact h.f j,by simpa using h.z,by simpa using hl⟩
 by_cases e:i=j
 ·subst e
  rw [setC_at (by rw [h.r i hj];rfl),List.getD_eq_getElem?_getD,List.getElem?_set_self (by omega)]
  rfl
 ·rw [setC_off (by omega),h.r j hj,List.getD_eq_getElem?_getD,List.getD_eq_getElem?_getD,List.getElem?_set_ne e]
theorem Tn.next {w:World} {b S:Nat} {who pc nx st:Int} {r:List Int} (h:Tn w b S who pc nx st r) (v:Int):Tn (w.setCell ⟨b,3,none⟩ (.int .i64 v)) b S who pc v st r:=
 ⟨(setC_off (by omega)).trans h.c0,(setC_off (by omega)).trans h.c1,(setC_off (by omega)).trans h.c2,setC_at (by rw [h.c3];rfl),(setC_off (by omega)).trans h.c4,fun j hj=>(setC_off (by omega)).trans (h.r j hj),fun j=>by rw [World.frozen?_setCell];exact h.f j,by simpa using h.z,h.l⟩
theorem Tn.state {w:World} {b S:Nat} {who pc nx st:Int} {r:List Int} (h:Tn w b S who pc nx st r) (v:Int):Tn (w.setCell ⟨b,4,none⟩ (.int .i64 v)) b S who pc nx v r:=
 ⟨(setC_off (by omega)).trans h.c0,(setC_off (by omega)).trans h.c1,(setC_off (by omega)).trans h.c2,(setC_off (by omega)).trans h.c3,setC_at (by rw [h.c4];rfl),fun j hj=>(setC_off (by omega)).trans (h.r j hj),fun j=>by rw [World.frozen?_setCell];exact h.f j,by simpa using h.z,h.l⟩
structure Xb (V:World) (z:Nat) (o r a b n:Value):Prop where
 c0:V.cell? ⟨z,0,none⟩=some o
 c1:V.cell? ⟨z,1,none⟩=some r
 c2:V.cell? ⟨z,2,none⟩=some a
 c3:V.cell? ⟨z,3,none⟩=some b
 c4:V.cell? ⟨z,4,none⟩=some n
 z:z < V.heap.size
theorem Xb.new (w:World) (o r a b n:Value) (T:TypeId):∃ W,w.alloc (.cells #[o,r,a,b,n] T)=W∧Xb W w.heap.size o r a b n∧Below w.heap.size w W∧w.heap.size < W.heap.size:=
 ⟨_,rfl,⟨by simp [go_sem],by simp [go_sem],by simp [go_sem],by simp [go_sem],by simp [go_sem],by simp⟩,(Below.refl _ _).alloc (Nat.le_refl _) _,by simp⟩
theorem Xb.below {V V':World} {z:Nat} {o r a b n:Value} (h:Xb V z o r a b n) {B:Nat} (hb:Below B V V') (hB:z < B):Xb V' z o r a b n:=
 ⟨(hb.cell (p:=⟨z,0,none⟩) hB).trans h.c0,(hb.cell (p:=⟨z,1,none⟩) hB).trans h.c1,(hb.cell (p:=⟨z,2,none⟩) hB).trans h.c2,(hb.cell (p:=⟨z,3,none⟩) hB).trans h.c3,(hb.cell (p:=⟨z,4,none⟩) hB).trans h.c4,by have:=hb.size;have:=h.z;omega⟩
theorem wrap_isI (z:Int):IntKind.i64.wrap z=wrap64 z:=by rw [IntKind.wrap_i64,wrap64]
theorem lessOf_any (a b:Int) (w:World):Calls Tryz.prog 88 #[.int .i64 a,.int .i64 b] w fun e w'=>e=.returned (.int .i64 (bitN (decide (a < b))))∧w'=w:=by
 by_cases h:a < b
 ·have e:bitN (decide (a < b))=1:=by simp [bitN,h]
  rw [e]
  go_enter Tryz.func88,Tryz.ntmps88
  go_wp2
  go_ret
  exact ⟨rfl,rfl⟩
 ·have e:bitN (decide (a < b))=0:=by simp [bitN,h]
  rw [e]
  go_enter Tryz.func88,Tryz.ntmps88
  go_wp2
  go_ret
  exact ⟨rfl,rfl⟩
set_option maxHeartbeats 2000000 in
theorem set_any (o r a bb n : Int) (b S : Nat) (who pc nx st : Int) (rg : List Int) (w : World) (h : Tn w b S who pc nx st rg) (hr : 0 ≤ r ∧ r ≤ 3) (ha : 0 ≤ a ∧ a ≤ 3) (hb : 0 ≤ bb ∧ bb ≤ 3) :
  Calls Tryz.prog 65 #[.pointer (some ⟨b,0,none⟩),.agg #[.int .i64 o,.int .i64 r,.int .i64 a,.int .i64 bb,.int .i64 n]] w fun e w'=>e=.returned (.int .i64 0)∧Below w.heap.size (w.setCell ⟨b,5+r.toNat,none⟩ (.int .i64 (n))) w':=by
 obtain ⟨r',hr'⟩:∃ r':Nat,r=r':=⟨r.toNat,by omega⟩
 subst hr'
 have br0:(0:Int)≤(r':Int):=by omega
 have br1:(r':Int) < 4:=by omega
 obtain ⟨a',ha'⟩:∃ a':Nat,a=a':=⟨a.toNat,by omega⟩
 subst ha'
 have ba0:(0:Int)≤(a':Int):=by omega
 have ba1:(a':Int) < 4:=by omega
 obtain ⟨bb',hbb'⟩:∃ bb':Nat,bb=bb':=⟨bb.toNat,by omega⟩
 subst hbb'
 have bbb0:(0:Int)≤(bb':Int):=by omega
 have bbb1:(bb':Int) < 4:=by omega
 have HT:=hidW h
 have hz:=h.z
 have hl:=h.l
 obtain ⟨vr,hvr⟩:∃ v,rg.getD r' 0=v:=⟨_,rfl⟩
 have HVr:=hidW hvr
 clear hvr
 obtain ⟨W,hW,hx,kW,zW⟩:=Xb.new w (.int .i64 o) (.int .i64 r') (.int .i64 a') (.int .i64 bb') (.int .i64 n) 85
 have HWW:=hidW hW
 have KW:=hidW kW
 have HX:=hidW hx
 have HTW:=hidW (h.below kW hz)
 clear h kW hx hW
 obtain ⟨x0,x1,x2,x3,x4,xz⟩:=HX.out
 obtain ⟨c0,c1,c2,c3,c4,cr,cf,cz,-⟩:=HTW.out
 have lr:W.cell? ⟨b,5+r',none⟩=some (.int .i64 vr):=by rw [← HVr.out];exact cr r' (by omega)
 go_enter Tryz.func65,Tryz.ntmps65
 go_wp2_with fail
 rw [HWW.out]
 have hne:=ext_ne W
 have u1:=Ext.fit x1 xz
 have u4:=Ext.fit x4 xz
 refine regionSuf W 8 (by decide) (by kernel_rfl) (by kernel_rfl) (by kernel_rfl) (by kernel_rfl) ?_
 dsimp only [List.take,List.drop]
 repeat (go_big_quiet_step (fail))
 refine wpQuiet_nil ?_
 clear hne u1 u4
 rintro w3 ⟨X3,rfl⟩
 obtain ⟨V2,hX3⟩:∃ V2,X3.w=V2:=⟨_,rfl⟩
 have hb3:=X3.b
 rw [hX3] at hb3 ⊢
 have K2:=hidW (KW.out.trans (hb3.mono (by omega)))
 have HT2:=hidW (HTW.out.below hb3 (by omega))
 clear hb3 hX3 X3
 have lr2:V2.cell? ⟨b,5+r',none⟩=some (.int .i64 (rg.getD r' 0)):=HT2.out.r r' (by omega)
 have ff2:=HT2.out.f
 have zf2:=HT2.out.z
 clear x0 x1 x2 x3 x4 xz c0 c1 c2 c3 c4 cr cf cz lr
 go_wp2
 go_ret
 refine ⟨rfl,?_⟩
 have E:(n)=n:=by rfl
 rw [E]
 exact belowP K2.out
set_option maxHeartbeats 2000000 in
theorem add_any (o r a bb n : Int) (b S : Nat) (who pc nx st : Int) (rg : List Int) (w : World) (h : Tn w b S who pc nx st rg) (hr : 0 ≤ r ∧ r ≤ 3) (ha : 0 ≤ a ∧ a ≤ 3) (hb : 0 ≤ bb ∧ bb ≤ 3) :
  Calls Tryz.prog 66 #[.pointer (some ⟨b,0,none⟩),.agg #[.int .i64 o,.int .i64 r,.int .i64 a,.int .i64 bb,.int .i64 n]] w fun e w'=>e=.returned (.int .i64 0)∧Below w.heap.size (w.setCell ⟨b,5+r.toNat,none⟩ (.int .i64 (IntKind.i64.wrap (regN rg a+regN rg bb)))) w':=by
 obtain ⟨r',hr'⟩:∃ r':Nat,r=r':=⟨r.toNat,by omega⟩
 subst hr'
 have br0:(0:Int)≤(r':Int):=by omega
 have br1:(r':Int) < 4:=by omega
 obtain ⟨a',ha'⟩:∃ a':Nat,a=a':=⟨a.toNat,by omega⟩
 subst ha'
 have ba0:(0:Int)≤(a':Int):=by omega
 have ba1:(a':Int) < 4:=by omega
 obtain ⟨bb',hbb'⟩:∃ bb':Nat,bb=bb':=⟨bb.toNat,by omega⟩
 subst hbb'
 have bbb0:(0:Int)≤(bb':Int):=by omega
 have bbb1:(bb':Int) < 4:=by omega
 have HT:=hidW h
 have hz:=h.z
 have hl:=h.l
 obtain ⟨vr,hvr⟩:∃ v,rg.getD r' 0=v:=⟨_,rfl⟩
 have HVr:=hidW hvr
 clear hvr
 obtain ⟨va,hva⟩:∃ v,rg.getD a' 0=v:=⟨_,rfl⟩
 have HVa:=hidW hva
 clear hva
 obtain ⟨vbb,hvbb⟩:∃ v,rg.getD bb' 0=v:=⟨_,rfl⟩
 have HVbb:=hidW hvbb
 clear hvbb
 obtain ⟨W,hW,hx,kW,zW⟩:=Xb.new w (.int .i64 o) (.int .i64 r') (.int .i64 a') (.int .i64 bb') (.int .i64 n) 85
 have HWW:=hidW hW
 have KW:=hidW kW
 have HX:=hidW hx
 have HTW:=hidW (h.below kW hz)
 clear h kW hx hW
 obtain ⟨x0,x1,x2,x3,x4,xz⟩:=HX.out
 obtain ⟨c0,c1,c2,c3,c4,cr,cf,cz,-⟩:=HTW.out
 have lr:W.cell? ⟨b,5+r',none⟩=some (.int .i64 vr):=by rw [← HVr.out];exact cr r' (by omega)
 have la:W.cell? ⟨b,5+a',none⟩=some (.int .i64 va):=by rw [← HVa.out];exact cr a' (by omega)
 have lbb:W.cell? ⟨b,5+bb',none⟩=some (.int .i64 vbb):=by rw [← HVbb.out];exact cr bb' (by omega)
 go_enter Tryz.func66,Tryz.ntmps66
 go_wp2_with fail
 rw [HWW.out]
 have hne:=ext_ne W
 have u1:=Ext.fit x1 xz
 have u2:=Ext.fit x2 xz
 have u3:=Ext.fit x3 xz
 have wa:=Ext.fit la cz
 have wbb:=Ext.fit lbb cz
 refine regionSuf W 21 (by decide) (by kernel_rfl) (by kernel_rfl) (by kernel_rfl) (by kernel_rfl) ?_
 dsimp only [List.take,List.drop]
 repeat (go_big_quiet_step (fail))
 refine wpQuiet_nil ?_
 clear hne u1 u2 u3 wa wbb
 rintro w3 ⟨X3,rfl⟩
 obtain ⟨V2,hX3⟩:∃ V2,X3.w=V2:=⟨_,rfl⟩
 have hb3:=X3.b
 rw [hX3] at hb3 ⊢
 have K2:=hidW (KW.out.trans (hb3.mono (by omega)))
 have HT2:=hidW (HTW.out.below hb3 (by omega))
 clear hb3 hX3 X3
 have lr2:V2.cell? ⟨b,5+r',none⟩=some (.int .i64 (rg.getD r' 0)):=HT2.out.r r' (by omega)
 have ff2:=HT2.out.f
 have zf2:=HT2.out.z
 clear x0 x1 x2 x3 x4 xz c0 c1 c2 c3 c4 cr cf cz lr la lbb
 go_wp2
 go_ret
 refine ⟨rfl,?_⟩
 have E:(IntKind.i64.wrap (regN rg (a':Int)+regN rg (bb':Int)))=wrap64 (va+vbb):=by simp only [regN,Int.toNat_natCast,HVa.out,HVbb.out,wrap_isI]
 rw [E]
 exact belowP K2.out
set_option maxHeartbeats 2000000 in
theorem sub_any (o r a bb n : Int) (b S : Nat) (who pc nx st : Int) (rg : List Int) (w : World) (h : Tn w b S who pc nx st rg) (hr : 0 ≤ r ∧ r ≤ 3) (ha : 0 ≤ a ∧ a ≤ 3) (hb : 0 ≤ bb ∧ bb ≤ 3) :
  Calls Tryz.prog 67 #[.pointer (some ⟨b,0,none⟩),.agg #[.int .i64 o,.int .i64 r,.int .i64 a,.int .i64 bb,.int .i64 n]] w fun e w'=>e=.returned (.int .i64 0)∧Below w.heap.size (w.setCell ⟨b,5+r.toNat,none⟩ (.int .i64 (IntKind.i64.wrap (regN rg a - regN rg bb)))) w':=by
 obtain ⟨r',hr'⟩:∃ r':Nat,r=r':=⟨r.toNat,by omega⟩
 subst hr'
 have br0:(0:Int)≤(r':Int):=by omega
 have br1:(r':Int) < 4:=by omega
 obtain ⟨a',ha'⟩:∃ a':Nat,a=a':=⟨a.toNat,by omega⟩
 subst ha'
 have ba0:(0:Int)≤(a':Int):=by omega
 have ba1:(a':Int) < 4:=by omega
 obtain ⟨bb',hbb'⟩:∃ bb':Nat,bb=bb':=⟨bb.toNat,by omega⟩
 subst hbb'
 have bbb0:(0:Int)≤(bb':Int):=by omega
 have bbb1:(bb':Int) < 4:=by omega
 have HT:=hidW h
 have hz:=h.z
 have hl:=h.l
 obtain ⟨vr,hvr⟩:∃ v,rg.getD r' 0=v:=⟨_,rfl⟩
 have HVr:=hidW hvr
 clear hvr
 obtain ⟨va,hva⟩:∃ v,rg.getD a' 0=v:=⟨_,rfl⟩
 have HVa:=hidW hva
 clear hva
 obtain ⟨vbb,hvbb⟩:∃ v,rg.getD bb' 0=v:=⟨_,rfl⟩
 have HVbb:=hidW hvbb
 clear hvbb
 obtain ⟨W,hW,hx,kW,zW⟩:=Xb.new w (.int .i64 o) (.int .i64 r') (.int .i64 a') (.int .i64 bb') (.int .i64 n) 85
 have HWW:=hidW hW
 have KW:=hidW kW
 have HX:=hidW hx
 have HTW:=hidW (h.below kW hz)
 clear h kW hx hW
 obtain ⟨x0,x1,x2,x3,x4,xz⟩:=HX.out
 obtain ⟨c0,c1,c2,c3,c4,cr,cf,cz,-⟩:=HTW.out
 have lr:W.cell? ⟨b,5+r',none⟩=some (.int .i64 vr):=by rw [← HVr.out];exact cr r' (by omega)
 have la:W.cell? ⟨b,5+a',none⟩=some (.int .i64 va):=by rw [← HVa.out];exact cr a' (by omega)
 have lbb:W.cell? ⟨b,5+bb',none⟩=some (.int .i64 vbb):=by rw [← HVbb.out];exact cr bb' (by omega)
 go_enter Tryz.func67,Tryz.ntmps67
 go_wp2_with fail
 rw [HWW.out]
 have hne:=ext_ne W
 have u1:=Ext.fit x1 xz
 have u2:=Ext.fit x2 xz
 have u3:=Ext.fit x3 xz
 have wa:=Ext.fit la cz
 have wbb:=Ext.fit lbb cz
 refine regionSuf W 21 (by decide) (by kernel_rfl) (by kernel_rfl) (by kernel_rfl) (by kernel_rfl) ?_
 dsimp only [List.take,List.drop]
 repeat (go_big_quiet_step (fail))
 refine wpQuiet_nil ?_
 clear hne u1 u2 u3 wa wbb
 rintro w3 ⟨X3,rfl⟩
 obtain ⟨V2,hX3⟩:∃ V2,X3.w=V2:=⟨_,rfl⟩
 have hb3:=X3.b
 rw [hX3] at hb3 ⊢
 have K2:=hidW (KW.out.trans (hb3.mono (by omega)))
 have HT2:=hidW (HTW.out.below hb3 (by omega))
 clear hb3 hX3 X3
 have lr2:V2.cell? ⟨b,5+r',none⟩=some (.int .i64 (rg.getD r' 0)):=HT2.out.r r' (by omega)
 have ff2:=HT2.out.f
 have zf2:=HT2.out.z
 clear x0 x1 x2 x3 x4 xz c0 c1 c2 c3 c4 cr cf cz lr la lbb
 go_wp2
 go_ret
 refine ⟨rfl,?_⟩
 have E:(IntKind.i64.wrap (regN rg (a':Int) - regN rg (bb':Int)))=wrap64 (va - vbb):=by simp only [regN,Int.toNat_natCast,HVa.out,HVbb.out,wrap_isI]
 rw [E]
 exact belowP K2.out
set_option maxHeartbeats 2000000 in
theorem less_any (o r a bb n : Int) (b S : Nat) (who pc nx st : Int) (rg : List Int) (w : World) (h : Tn w b S who pc nx st rg) (hr : 0 ≤ r ∧ r ≤ 3) (ha : 0 ≤ a ∧ a ≤ 3) (hb : 0 ≤ bb ∧ bb ≤ 3) :
  Calls Tryz.prog 68 #[.pointer (some ⟨b,0,none⟩),.agg #[.int .i64 o,.int .i64 r,.int .i64 a,.int .i64 bb,.int .i64 n]] w fun e w'=>e=.returned (.int .i64 0)∧Below w.heap.size (w.setCell ⟨b,5+r.toNat,none⟩ (.int .i64 (bitN (decide (regN rg a < regN rg bb))))) w':=by
 obtain ⟨r',hr'⟩:∃ r':Nat,r=r':=⟨r.toNat,by omega⟩
 subst hr'
 have br0:(0:Int)≤(r':Int):=by omega
 have br1:(r':Int) < 4:=by omega
 obtain ⟨a',ha'⟩:∃ a':Nat,a=a':=⟨a.toNat,by omega⟩
 subst ha'
 have ba0:(0:Int)≤(a':Int):=by omega
 have ba1:(a':Int) < 4:=by omega
 obtain ⟨bb',hbb'⟩:∃ bb':Nat,bb=bb':=⟨bb.toNat,by omega⟩
 subst hbb'
 have bbb0:(0:Int)≤(bb':Int):=by omega
 have bbb1:(bb':Int) < 4:=by omega
 have HT:=hidW h
 have hz:=h.z
 have hl:=h.l
 obtain ⟨vr,hvr⟩:∃ v,rg.getD r' 0=v:=⟨_,rfl⟩
 have HVr:=hidW hvr
 clear hvr
 obtain ⟨va,hva⟩:∃ v,rg.getD a' 0=v:=⟨_,rfl⟩
 have HVa:=hidW hva
 clear hva
 obtain ⟨vbb,hvbb⟩:∃ v,rg.getD bb' 0=v:=⟨_,rfl⟩
 have HVbb:=hidW hvbb
 clear hvbb
 obtain ⟨W,hW,hx,kW,zW⟩:=Xb.new w (.int .i64 o) (.int .i64 r') (.int .i64 a') (.int .i64 bb') (.int .i64 n) 85
 have HWW:=hidW hW
 have KW:=hidW kW
 have HX:=hidW hx
 have HTW:=hidW (h.below kW hz)
 clear h kW hx hW
 obtain ⟨x0,x1,x2,x3,x4,xz⟩:=HX.out
 obtain ⟨c0,c1,c2,c3,c4,cr,cf,cz,-⟩:=HTW.out
 have lr:W.cell? ⟨b,5+r',none⟩=some (.int .i64 vr):=by rw [← HVr.out];exact cr r' (by omega)
 have la:W.cell? ⟨b,5+a',none⟩=some (.int .i64 va):=by rw [← HVa.out];exact cr a' (by omega)
 have lbb:W.cell? ⟨b,5+bb',none⟩=some (.int .i64 vbb):=by rw [← HVbb.out];exact cr bb' (by omega)
 go_enter Tryz.func68,Tryz.ntmps68
 go_wp2_with fail
 rw [HWW.out]
 have hne:=ext_ne W
 have u1:=Ext.fit x1 xz
 have u2:=Ext.fit x2 xz
 have u3:=Ext.fit x3 xz
 have wa:=Ext.fit la cz
 have wbb:=Ext.fit lbb cz
 refine regionSuf W 21 (by decide) (by kernel_rfl) (by kernel_rfl) (by kernel_rfl) (by kernel_rfl) ?_
 dsimp only [List.take,List.drop]
 repeat (go_big_quiet_step ((rename_i X;go_at_call 88;refine (lessOf_any _ _ _).mono ?_;rintro e w9 ⟨rfl,rfl⟩;exact ⟨rfl,X.on (Below.refl _ _)⟩)))
 refine wpQuiet_nil ?_
 clear hne u1 u2 u3 wa wbb
 rintro w3 ⟨X3,rfl⟩
 obtain ⟨V2,hX3⟩:∃ V2,X3.w=V2:=⟨_,rfl⟩
 have hb3:=X3.b
 rw [hX3] at hb3 ⊢
 have K2:=hidW (KW.out.trans (hb3.mono (by omega)))
 have HT2:=hidW (HTW.out.below hb3 (by omega))
 clear hb3 hX3 X3
 have lr2:V2.cell? ⟨b,5+r',none⟩=some (.int .i64 (rg.getD r' 0)):=HT2.out.r r' (by omega)
 have ff2:=HT2.out.f
 have zf2:=HT2.out.z
 clear x0 x1 x2 x3 x4 xz c0 c1 c2 c3 c4 cr cf cz lr la lbb
 go_wp2
 go_ret
 refine ⟨rfl,?_⟩
 have E:(bitN (decide (regN rg (a':Int) < regN rg (bb':Int))))=bitN (decide (va < vbb)):=by simp only [regN,Int.toNat_natCast,HVa.out,HVbb.out]
 rw [E]
 exact belowP K2.out
end
end Go.Proofs.YtknffngbdakblaaGreat
