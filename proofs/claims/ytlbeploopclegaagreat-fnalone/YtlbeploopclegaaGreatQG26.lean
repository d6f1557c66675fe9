/- What the laws on runs and steps of machines keep; runs in parts. No condition of its own. A core that goes on alone: what becomes of the machine. No condition. A step that is done: what it leaves of the cores; a view only learns. No condition. A core that goes on alone, in two parts; what becomes of the others; sizes. No condition. The step at which a core of a right machine stands; a step in the walk's machine, told. Conditions: the machine lies in memory as the reading says. -/
import Derived.Test.YtlbeploopclegaaGreatQG00
import Derived.Test.YtlbeploopclegaaGreatQG04
import Derived.Test.YtlbeploopclegaaGreatQG02
import Derived.Test.YtlbeploopclegaaGreatQG01
import Derived.Test.YtlbeploopclegaaGreatQDrawMd
import Derived.Test.YtlbeploopclegaaGreatQG25
import Derived.Test.YtlbeploopclegaaGreatQKDupS
import Derived.Test.YtlbeploopclegaaGreatQG18
import Derived.Test.YtlbeploopclegaaGreatQG20
import Derived.Test.YtlbeploopclegaaGreatQG05
import Derived.Test.YtlbeploopclegaaGreatQG06
import Derived.Test.YtlbeploopclegaaGreatQG10
import Derived.Test.YtlbeploopclegaaGreatQKOkB
import Derived.Deep.RegionHeld3
import Derived.Deep.DeepCutAuto
namespace Go.Proofs.YtlbeploopclegaaGreat
section
set_option linter.unusedSimpArgs false
set_option linter.unusedVariables false
set_option maxRecDepth 100000
open Go.RowKit Go.Deep
structure Fm (b:Nat) (q:MP) (d:MD) (X:World):Prop where
 b:X4 X b (.slice q.s1 d.codes.length q.c1) (.slice q.s2 d.cores.length q.c2) (.slice q.s3 d.mem.length q.c3) (.slice q.s4 d.tr.length q.c4)
 r:MaR X 0 X.heap.size q.s1 q.s2 q.s3 q.s4 d
theorem Fm.keep {b:Nat} {q:MP} {d:MD} {X Y:World} (h:Fm b q d X) (k:Below X.heap.size X Y):Fm b q d Y:=
 ⟨h.b.keep k h.b.x.z,(h.r.keep (Keep.of_below k (Nat.le_refl _))).mono (Nat.le_refl _) k.size⟩
theorem Fm.new (w:World) {lo hi:Nat} {q:MP} {d:MD} (h:MaR w lo hi q.s1 q.s2 q.s3 q.s4 d) (hB:hi≤w.heap.size):∃ A,w.alloc (.cells #[.slice q.s1 d.codes.length q.c1,.slice q.s2 d.cores.length q.c2,.slice q.s3 d.mem.length q.c3,.slice q.s4 d.tr.length q.c4] 38)=A∧Fm w.heap.size q d A∧Below w.heap.size w A:=by
 obtain ⟨A,hA,x,k,-⟩:=X4.new w (.slice q.s1 d.codes.length q.c1) (.slice q.s2 d.cores.length q.c2) (.slice q.s3 d.mem.length q.c3) (.slice q.s4 d.tr.length q.c4) 38
 exact ⟨A,hA,⟨x,(h.keep (Keep.of_below k hB)).mono (Nat.zero_le _) (Nat.le_trans hB k.size)⟩,k⟩
theorem at_one (s:Option Addr) (n c:Nat) (w:World) (h:Bytes w w.heap.size s n) (hn:n≤1048576):Calls Tryz.prog 16 #[.slice s n c,.int .i64 1] w fun e w'=>∃ x:Int,e=.returned (.int .i64 x)∧0≤x∧x≤255∧w'=w:=by
 by_cases hlt:(1:Int) < (n:Int)
 ·rcases h with rfl | ⟨g,o,rfl,hg,hc⟩
  ·omega
  obtain ⟨b,h1,h2,h3⟩:=hc 1 (by omega)
  have b0:(0:Int)≤((1:Nat):Int):=by omega
  go_enter Tryz.func16,Tryz.ntmps16
  go_wp2
  go_ret
  exact ⟨b,rfl,h2,h3,rfl⟩
 ·clear h
  go_enter Tryz.func16,Tryz.ntmps16
  go_wp2
  go_ret
  exact ⟨_,rfl,by omega,by omega,rfl⟩
end
section
set_option linter.unusedSimpArgs false
set_option linter.unusedVariables false
set_option maxRecDepth 100000
open Go.RowKit
theorem stepAt_ref0 (d:MD) (who:Nat) (late:Int) (k:KD) (n:Nat) (s:I5) (h:¬ (stepAt d who late k n s).2=0):(stepAt d who late k n s).1=d:=by
 revert h
 unfold stepAt
 by_cases h1:s.o=1
 ·rw [if_pos h1];intro h;exact absurd rfl h
 rw [if_neg h1]
 by_cases h2:s.o=2
 ·rw [if_pos h2];intro h;exact absurd rfl h
 rw [if_neg h2]
 by_cases h3:s.o=3
 ·rw [if_pos h3];intro h;exact absurd rfl h
 rw [if_neg h3]
 by_cases h4:s.o=4
 ·rw [if_pos h4];intro h;exact absurd rfl h
 rw [if_neg h4]
 by_cases h9:s.o=9
 ·rw [if_pos h9]
  by_cases ht:d.tr.length=4000
  ·rw [if_pos ht];intro _;rfl
  ·rw [if_neg ht];intro h;exact absurd rfl h
 rw [if_neg h9]
 by_cases h10:s.o=10
 ·rw [if_pos h10];intro h;exact absurd rfl h
 rw [if_neg h10]
 by_cases h11:s.o=11
 ·rw [if_pos h11];intro h;exact absurd rfl h
 rw [if_neg h11]
 by_cases h12:s.o=12
 ·rw [if_pos h12];intro h;exact absurd rfl h
 rw [if_neg h12]
 by_cases h13:s.o=13
 ·rw [if_pos h13];intro h;exact absurd rfl h
 rw [if_neg h13]
 by_cases hc:0≤cellM k s∧cellM k s≤23
 ·rw [if_pos hc]
  by_cases hf:s.o≠5∧(d.mem.getD (cellM k s).toNat []).length=4000
  ·rw [if_pos hf];intro _;rfl
  ·rw [if_neg hf];intro h;exact absurd rfl h
 ·rw [if_neg hc];intro h;exact absurd rfl h
theorem stepM_ref0 (d:MD) (who late:Int) (h:¬ (stepM d who late).2=0):(stepM d who late).1=d:=by
 revert h
 unfold stepM
 by_cases hw:0≤who∧who < (d.cores.length:Int)
 ·rw [if_pos hw]
  cases d.cores[who.toNat]? with
  | none=>intro _;rfl
  | some k=>
   cases d.codes[who.toNat]? with
   | none=>intro _;rfl
   | some code=>
    simp only
    by_cases hs:k.st=0
    ·rw [if_pos hs];exact stepAt_ref0 _ _ _ _ _ _
    ·rw [if_neg hs];intro _;rfl
 ·rw [if_neg hw];intro _;rfl
def alM:Nat→MD→Int→MD
 | 0,d,_=>d
 | n+1,d,who=>if (stepM d who 0).2=0 then alM n (stepM d who 0).1 who else d
theorem alM_go {n:Nat} {d:MD} {who:Int} (h:(stepM d who 0).2=0):alM (n+1) d who=alM n (stepM d who 0).1 who:=if_pos h
theorem alM_no {n:Nat} {d:MD} {who:Int} (h:¬ (stepM d who 0).2=0):alM n d who=d:=by
 cases n with
 | zero=>rfl
 | succ n=>exact if_neg h
theorem alM_ok:∀ (n:Nat) {d:MD} {who:Int},machB d=true→machB (alM n d who)=true
 | 0,_,_,h=>h
 | n+1,d,who,h=>by
  by_cases h0:(stepM d who 0).2=0
  ·rw [alM_go h0]
   exact alM_ok n (stepM_ok who 0 h)
  ·rw [alM_no h0]
   exact h
theorem alM_sz:∀ (n:Nat) {d:MD} {who:Int},machB d=true→(alM n d who).codes=d.codes∧(alM n d who).mem.length+szR (alM n d who).mem≤d.mem.length+szR d.mem+25 * n
 | 0,_,_,_=>⟨rfl,by simp [alM]⟩
 | n+1,d,who,h=>by
  by_cases h0:(stepM d who 0).2=0
  ·rw [alM_go h0]
   have h1:=stepM_sz who 0 h
   have h2:=alM_sz n (who:=who) (stepM_ok who 0 h)
   exact ⟨h2.1.trans h1.1,by omega⟩
  ·rw [alM_no h0]
   exact ⟨rfl,by omega⟩
/- how many steps are asked for -/
def stN (steps:Int):Nat:=(if steps < 4000 then steps else 4000).toNat
theorem stN_le (steps:Int):stN steps≤4000:=by unfold stN;split<;>omega
noncomputable def aloneM (d:MD) (who steps:Int):MD:=if machB d=true then (if 0≤who∧who < (d.cores.length:Int) then alM (stN steps) d who else d) else noMd
end
section
set_option linter.unusedSimpArgs false
set_option linter.unusedVariables false
set_option maxRecDepth 100000
open Go.RowKit
theorem knows_of {a b:List Int} (hl:a.length=b.length) (h:∀ i,i < a.length→b.getD i 0≤a.getD i 0):knowsB a b=true:=decide_eq_true ⟨hl,h⟩
theorem knows_refl (a:List Int):knowsB a a=true:=knows_of rfl (fun _ _=>Int.le_refl _)
theorem knows_trans {a b c:List Int} (h:knowsB a b=true) (h':knowsB b c=true):knowsB a c=true:=by
 unfold knowsB at h h'
 rw [decide_eq_true_eq] at h h'
 exact knows_of (h.1.trans h'.1) (fun i hi=>Int.le_trans (h'.2 i (by omega)) (h.2 i hi))
theorem knows_set {l:List Int} {c:Nat} {z:Int} (hz:l.getD c 0≤z):knowsB (l.set c z) l=true:=by
 refine knows_of (by simp) (fun i hi=>?_)
 by_cases hc:c < l.length
 ·rw [getD_setI hc]
  split
  ·rename_i e
   subst e
   exact hz
  ·exact Int.le_refl _
 ·rw [List.set_eq_of_length_le (by omega)]
  exact Int.le_refl _
theorem knows_join {a b:List Int} (h:a.length=b.length):knowsB (joinL a b) a=true:=by
 refine knows_of (by unfold joinL;simp;omega) (fun i hi=>?_)
 have hi1:i < a.length:=by unfold joinL at hi;simp at hi;omega
 have hi2:i < b.length:=by omega
 unfold joinL
 rw [List.getD_eq_getElem?_getD,List.getD_eq_getElem?_getD,List.getElem?_zipWith,List.getElem?_eq_getElem hi1,List.getElem?_eq_getElem hi2]
 show a[i]≤mx a[i] b[i]
 unfold mx
 split<;>omega
theorem ldW_knows {m:List (List WD)} {l:List Int} {c:Nat} (late:Int) (hold:Bool) (hm:memB m=true) (hv:viewB m l=true) (hc:c < 24):knowsB (ldW m l c late hold) l=true:=by
 have h1:=(ldJ_lt late hm hv hc).2
 have h2:l.getD c 0≤(ldJ m l c late:Int):=by
  rw [← h1]
  unfold mx
  split<;>omega
 obtain ⟨r,-,-,hx⟩:=ldX_at late hm hv hc
 have e1:=(viewB_iff.1 hv).1
 have e2:=(viewB_iff.1 hx).1
 unfold ldW
 split
 ·exact knows_trans (knows_join (by simp;omega)) (knows_set h2)
 ·exact knows_set h2
theorem stW_knows {m:List (List WD)} {l:List Int} {c:Nat} (hm:memB m=true) (hv:viewB m l=true) (hc:c < 24):knowsB (stW m l c) l=true:=by
 unfold stW
 refine knows_set ?_
 have h24:=(memB_at hm hc).1
 have q:=viewB_iff.1 hv
 have:=(q.2 c (by omega)).2
 omega
theorem memS_knows {d:MD} {k:KD} {s:I5} {c:Nat} (late:Int) (hm:memB d.mem=true) (hv:viewB d.mem k.vw=true) (hc:c < 24):(memS d late k s c).1.cores=d.cores∧knowsB (memS d late k s c).2.vw k.vw=true:=by
 unfold memS
 split
 ·exact ⟨rfl,ldW_knows late false hm hv hc⟩
 ·split
  ·exact ⟨rfl,knows_trans (stW_knows hm (ldW_ok 0 true hm hv hc) hc) (ldW_knows 0 true hm hv hc)⟩
  ·exact ⟨rfl,stW_knows hm hv hc⟩
theorem goM_core (d:MD) (who:Nat) (k:KD) (n:Nat) (p:Int):∃ k',(goM d who k n p).cores=d.cores.set who k'∧k'.vw=k.vw:=by
 unfold goM
 split
 ·exact ⟨{ k with pc:=p },rfl,rfl⟩
 ·exact ⟨{ k with st:=2 },rfl,rfl⟩
def CoreG (d x:MD) (who:Nat) (k:KD):Prop:=∃ k':KD,x.cores=d.cores.set who k'∧knowsB k'.vw k.vw=true
theorem goG {d d0:MD} {who n:Nat} {k k0:KD} {p:Int} (h:d.cores=d0.cores) (hk:knowsB k.vw k0.vw=true):CoreG d0 (goM d who k n p) who k0:=by
 obtain ⟨k',h1,h2⟩:=goM_core d who k n p
 exact ⟨k',by rw [h1,h],by rw [h2];exact hk⟩
theorem stepAt_core {d:MD} {who:Nat} {k:KD} {code:List I5} {s:I5} (late:Int) (ha:At8 d who k code s):(stepAt d who late k code.length s).2=3∨((stepAt d who late k code.length s).2=0∧CoreG d (stepAt d who late k code.length s).1 who k):=by
 have kr:=knows_refl k.vw
 unfold stepAt
 by_cases h1:s.o=1
 ·rw [if_pos h1];exact .inr ⟨rfl,goG rfl kr⟩
 rw [if_neg h1]
 by_cases h2:s.o=2
 ·rw [if_pos h2];exact .inr ⟨rfl,goG rfl kr⟩
 rw [if_neg h2]
 by_cases h3:s.o=3
 ·rw [if_pos h3];exact .inr ⟨rfl,goG rfl kr⟩
 rw [if_neg h3]
 by_cases h4:s.o=4
 ·rw [if_pos h4];exact .inr ⟨rfl,goG rfl kr⟩
 rw [if_neg h4]
 by_cases h9:s.o=9
 ·rw [if_pos h9]
  by_cases ht:d.tr.length=4000
  ·rw [if_pos ht];exact .inl rfl
  ·rw [if_neg ht];exact .inr ⟨rfl,goG rfl kr⟩
 rw [if_neg h9]
 by_cases h10:s.o=10
 ·rw [if_pos h10];exact .inr ⟨rfl,goG rfl kr⟩
 rw [if_neg h10]
 by_cases h11:s.o=11
 ·rw [if_pos h11];exact .inr ⟨rfl,goG rfl kr⟩
 rw [if_neg h11]
 by_cases h12:s.o=12
 ·rw [if_pos h12];exact .inr ⟨rfl,_,rfl,kr⟩
 rw [if_neg h12]
 by_cases h13:s.o=13
 ·rw [if_pos h13];exact .inr ⟨rfl,_,rfl,kr⟩
 rw [if_neg h13]
 by_cases hc:0≤cellM k s∧cellM k s≤23
 ·rw [if_pos hc]
  by_cases hf:s.o≠5∧(d.mem.getD (cellM k s).toNat []).length=4000
  ·rw [if_pos hf];exact .inl rfl
  ·rw [if_neg hf]
   have q:=memS_knows (s:=s) (k:=k) (d:=d) (c:=(cellM k s).toNat) late ha.mem ha.vw (by omega)
   exact .inr ⟨rfl,goG q.1 q.2⟩
 ·rw [if_neg hc];exact .inr ⟨rfl,_,rfl,kr⟩
theorem stepM_core {d:MD} (who late:Int) (hm:machB d=true) (h0:(stepM d who late).2=0):∃ (n:Nat) (k k':KD),who=n∧d.cores[n]? =some k∧(stepM d who late).1.cores=d.cores.set n k'∧knowsB k'.vw k.vw=true:=by
 by_cases hw:0≤who∧who < (d.cores.length:Int)
 ·obtain ⟨n,rfl⟩:∃ n:Nat,who=(n:Int):=⟨who.toNat,by omega⟩
  obtain ⟨k,code,s,ha⟩:=mach_at hm (who:=n) (by omega)
  by_cases hst:k.st=0
  ·rw [stepM_at ha late hst] at h0 ⊢
   rcases stepAt_core late ha with h3 | ⟨-,k',h1,h2⟩
   ·rw [h3] at h0
    exact absurd h0 (by decide)
   ·exact ⟨n,k,k',rfl,ha.hk,h1,h2⟩
  ·rw [stepM_over ha late hst] at h0
   simp at h0
 ·rw [stepM_none late hw] at h0
  simp at h0
end
section
set_option linter.unusedSimpArgs false
set_option linter.unusedVariables false
set_option maxRecDepth 100000
open Go.RowKit
theorem alM_add:∀ (a b:Nat) (d:MD) (who:Int),alM (a+b) d who=alM b (alM a d who) who
 | 0,b,d,who=>by rw [Nat.zero_add];rfl
 | a+1,b,d,who=>by
  by_cases h:(stepM d who 0).2=0
  ·rw [show a+1+b=(a+b)+1 from by omega,alM_go h,alM_go h]
   exact alM_add a b _ _
  ·rw [alM_no h,alM_no h,alM_no h]
theorem alM_cores:∀ (n:Nat) {d:MD} {who:Int},machB d=true→(alM n d who).cores.length=d.cores.length∧∀ j:Nat,¬ (j:Int)=who→(alM n d who).cores[j]? =d.cores[j]?
 | 0,_,_,_=>⟨rfl,fun _ _=>rfl⟩
 | n+1,d,who,hm=>by
  by_cases h:(stepM d who 0).2=0
  ·rw [alM_go h]
   obtain ⟨m,k,k',hw,hk,hc,-⟩:=stepM_core who 0 hm h
   have ih:=alM_cores n (who:=who) (stepM_ok who 0 hm)
   refine ⟨by rw [ih.1,hc,List.length_set],fun j hj=>?_⟩
   rw [ih.2 j hj,hc,List.getElem?_set_ne (by omega)]
  ·rw [alM_no h]
   exact ⟨rfl,fun _ _=>rfl⟩
theorem aloneM_cores {d:MD} (who steps:Int) (hm:machB d=true):(aloneM d who steps).cores.length=d.cores.length∧∀ j:Nat,¬ (j:Int)=who→(aloneM d who steps).cores[j]? =d.cores[j]? :=by
 unfold aloneM
 rw [if_pos hm]
 split
 ·exact alM_cores _ hm
 ·exact ⟨rfl,fun _ _=>rfl⟩
theorem aloneM_ok {d:MD} (who steps:Int) (hm:machB d=true):machB (aloneM d who steps)=true:=by
 unfold aloneM
 rw [if_pos hm]
 split
 ·exact alM_ok _ hm
 ·exact hm
theorem aloneM_none {d:MD} (who steps:Int) (hm:machB d=false):aloneM d who steps=noMd:=by
 unfold aloneM
 rw [if_neg (by rw [hm];decide)]
theorem stN_parts {k steps:Int} (h:0≤k∧k≤steps∨k=0) (hs:steps≤4000):stN k+stN (steps - k)=stN steps:=by
 unfold stN
 split<;>split<;>split<;>omega
theorem aloneM_parts {d:MD} {who k steps:Int} (hm:machB d=true) (h:0≤k∧k≤steps∨k=0) (hs:steps≤4000):aloneM (aloneM d who k) who (steps - k)=aloneM d who steps:=by
 have e1:=aloneM_ok who k hm
 have e2:=(aloneM_cores who k hm).1
 have e3:=stN_parts h hs
 by_cases hw:0≤who∧who < (d.cores.length:Int)
 ·have f1:aloneM d who k=alM (stN k) d who:=by unfold aloneM;rw [if_pos hm,if_pos hw]
  have f2:aloneM d who steps=alM (stN steps) d who:=by unfold aloneM;rw [if_pos hm,if_pos hw]
  rw [f2,← e3,alM_add,← f1]
  generalize aloneM d who k=D at e1 e2
  unfold aloneM
  rw [if_pos e1,e2,if_pos hw]
 ·have f1:aloneM d who k=d:=by unfold aloneM;rw [if_pos hm,if_neg hw]
  have f2:aloneM d who steps=d:=by unfold aloneM;rw [if_pos hm,if_neg hw]
  rw [f1,f2]
  unfold aloneM
  rw [if_pos hm,if_neg hw]
theorem aloneM_sz {d:MD} (who steps:Int) (h:MaSz d≤21000):MaSz (aloneM d who steps)≤200000:=by
 unfold aloneM
 split
 ·rename_i hm
  split
  ·have ok:=alM_ok (stN steps) (who:=who) hm
   obtain ⟨h1,h2⟩:=alM_sz (stN steps) (who:=who) hm
   have h3:=mach_k ok
   have h4:=stN_le steps
   unfold MaSz at h ⊢
   rw [h1]
   omega
  ·omega
 ·show MaSz noMd≤_
  decide
end
section
set_option linter.unusedSimpArgs false
set_option linter.unusedVariables false
set_option maxRecDepth 100000
open Go.RowKit
theorem X4.putA {V:World} {b:Nat} {v0 v1 v2 v3:Value} (a b' c d:Value) (h:X4 V b v0 v1 v2 v3):∃ Z,(((V.setCell ⟨b,0,none⟩ a).setCell ⟨b,1,none⟩ b').setCell ⟨b,2,none⟩ c).setCell ⟨b,3,none⟩ d=Z∧X4 Z b a b' c d∧Z.heap.size=V.heap.size∧(∀ q,q≠b→Z.heap[q]? =V.heap[q]?)∧(∀ (B:Nat) (A:World),Below B A V→B≤b→Below B A Z)∧(BxT V b→BxT Z b):=by
 refine ⟨_,rfl,h.set0.set1.set2.set3,by simp,fun q hq=>?_,fun B A k hB=>(((k.setCell (p:=⟨b,0,none⟩) hB _).setCell (p:=⟨b,1,none⟩) hB _).setCell (p:=⟨b,2,none⟩) hB _).setCell (p:=⟨b,3,none⟩) hB _,fun t=>t.set.set.set.set⟩
 exact (Below.heap_setCell _ ⟨b,_,none⟩ _ q hq).trans ((Below.heap_setCell _ ⟨b,_,none⟩ _ q hq).trans ((Below.heap_setCell _ ⟨b,_,none⟩ _ q hq).trans (Below.heap_setCell _ ⟨b,_,none⟩ _ q hq)))
/- where the step is read -/
structure St8 (V:World) (vc vk:Value) (who p nc nk cl gc cc gk ck gs cs:Nat) (s:I5):Prop where
 ec:vc=.slice (some ⟨gc,0,none⟩) nc cc
 ek:vk=.slice (some ⟨gk,0,none⟩) nk ck
 c0:V.cell? ⟨gc,who,none⟩=some (.slice (some ⟨gs,0,none⟩) cl cs)
 k0:V.cell? ⟨gk,who * 4,none⟩=some (.int .i64 p)
 s0:V.cell? ⟨gs,p * 5,none⟩=some (.int .i64 s.o)
 s1:V.cell? ⟨gs,p * 5+1,none⟩=some (.int .i64 s.r)
 s2:V.cell? ⟨gs,p * 5+2,none⟩=some (.int .i64 s.a)
 s3:V.cell? ⟨gs,p * 5+3,none⟩=some (.int .i64 s.b)
 s4:V.cell? ⟨gs,p * 5+4,none⟩=some (.int .i64 s.n)
 wc:who < nc
 wk:who < nk
 hp:p < cl
 zc:gc < V.heap.size
 zk:gk < V.heap.size
 zs:gs < V.heap.size
theorem St8.keep {V V':World} {vc vk:Value} {who p nc nk cl gc cc gk ck gs cs:Nat} {s:I5} (h:St8 V vc vk who p nc nk cl gc cc gk ck gs cs s) (k:Below V.heap.size V V'):St8 V' vc vk who p nc nk cl gc cc gk ck gs cs s:=by
 have c:∀ (g j:Nat),g < V.heap.size→V'.cell? ⟨g,j,none⟩=V.cell? ⟨g,j,none⟩:=fun g j hg=>k.cell (p:=⟨g,j,none⟩) hg
 exact ⟨h.ec,h.ek,(c _ _ h.zc).trans h.c0,(c _ _ h.zk).trans h.k0,(c _ _ h.zs).trans h.s0,(c _ _ h.zs).trans h.s1,(c _ _ h.zs).trans h.s2,(c _ _ h.zs).trans h.s3,(c _ _ h.zs).trans h.s4,h.wc,h.wk,h.hp,Nat.lt_of_lt_of_le h.zc k.size,Nat.lt_of_lt_of_le h.zk k.size,Nat.lt_of_lt_of_le h.zs k.size⟩
theorem MQ0.st8 {w : World} {B : Nat} {vc vk vm vt : Value} {LC : List CV} {LK : List KV} {S : List RS} {d : MD} {who : Nat} {k : KD} {code : List I5} {s : I5} (h : MQ0 w B vc vk vm vt LC LK S d) (ha : At8 d who k code s) :
  ∃ p gc cc gk ck gs cs,St8 w vc vk who p d.codes.length d.cores.length code.length gc cc gk ck gs cs s∧k.pc=p:=by
 obtain ⟨p,gc,cc,gk,ck,gs,cs,gr,cr,gv,cv,gO,cO,st,ct,o⟩:=h.open ha
 have l:LK.length=d.cores.length:=by rw [← h.ek,List.length_map]
 have e:=o.ek
 rw [l] at e
 have hpl:=ha.pcl
 have hp:=o.hp
 exact ⟨p,gc,cc,gk,ck,gs,cs,⟨o.ec,e,o.c0,by rw [← hp];exact o.k0,o.s0,o.s1,o.s2,o.s3,o.s4,o.wc,by rw [← l];exact o.wk,by omega,o.zc,o.zk,o.zs⟩,hp⟩
structure X5 (V:World) (b:Nat) (o r a b' n:Int):Prop where
 c0:V.cell? ⟨b,0,none⟩=some (.int .i64 o)
 c1:V.cell? ⟨b,1,none⟩=some (.int .i64 r)
 c2:V.cell? ⟨b,2,none⟩=some (.int .i64 a)
 c3:V.cell? ⟨b,3,none⟩=some (.int .i64 b')
 c4:V.cell? ⟨b,4,none⟩=some (.int .i64 n)
 f:∀ j,V.frozen? ⟨b,j,none⟩=false
 z:b < V.heap.size
theorem X5.keep {V V':World} {b:Nat} {o r a b' n:Int} (h:X5 V b o r a b' n) (k:Below V.heap.size V V'):X5 V' b o r a b' n:=
 ⟨(k.cell (p:=⟨b,0,none⟩) h.z).trans h.c0,(k.cell (p:=⟨b,1,none⟩) h.z).trans h.c1,(k.cell (p:=⟨b,2,none⟩) h.z).trans h.c2,(k.cell (p:=⟨b,3,none⟩) h.z).trans h.c3,(k.cell (p:=⟨b,4,none⟩) h.z).trans h.c4,fun j=>(k.frozen (p:=⟨b,j,none⟩) h.z).trans (h.f j),Nat.lt_of_lt_of_le h.z k.size⟩
theorem X5.new (w:World) (o r a b' n:Int) (T:TypeId):X5 (w.alloc (.cells #[.int .i64 o,.int .i64 r,.int .i64 a,.int .i64 b',.int .i64 n] T)) w.heap.size o r a b' n:=
 ⟨by simp [go_sem],by simp [go_sem],by simp [go_sem],by simp [go_sem],by simp [go_sem],fun j=>by simp [go_sem],by simp⟩
theorem X5.put {V:World} {b:Nat} {o r a b' n:Int} (h:X5 V b o r a b' n) (o1 r1 a1 b1 n1:Int):∃ Z,((((V.setCell ⟨b,0,none⟩ (.int .i64 o1)).setCell ⟨b,1,none⟩ (.int .i64 r1)).setCell ⟨b,2,none⟩ (.int .i64 a1)).setCell ⟨b,3,none⟩ (.int .i64 b1)).setCell ⟨b,4,none⟩ (.int .i64 n1)=Z∧X5 Z b o1 r1 a1 b1 n1∧∀ (B:Nat) (A:World),Below B A V→B≤b→Below B A Z:=by
 have c0:=h.c0
 have c1:=h.c1
 have c2:=h.c2
 have c3:=h.c3
 have c4:=h.c4
 have f:=h.f
 have z:=h.z
 refine ⟨_,rfl,⟨by simp [go_sem,c0,c1,c2,c3,c4],by simp [go_sem,c0,c1,c2,c3,c4],by simp [go_sem,c0,c1,c2,c3,c4],by simp [go_sem,c0,c1,c2,c3,c4],by simp [go_sem,c0,c1,c2,c3,c4],fun j=>by simp [go_sem,f],by simpa using z⟩,fun B A k hB=>((((k.setCell (p:=⟨b,0,none⟩) hB _).setCell (p:=⟨b,1,none⟩) hB _).setCell (p:=⟨b,2,none⟩) hB _).setCell (p:=⟨b,3,none⟩) hB _).setCell (p:=⟨b,4,none⟩) hB _⟩
set_option maxRecDepth 100000 in
set_option maxHeartbeats 2000000 in
theorem stepOf_any {w : World} {vc vk vm vt : Value} {who p nc nk cl gc cc gk ck gs cs : Nat} {s : I5} (h : St8 w vc vk who p nc nk cl gc cc gk ck gs cs s) :
  Calls Tryz.prog 123 #[.agg #[vc,vk,vm,vt],.int .i64 who] w fun e w'=>e=.returned (.tuple #[.agg #[.int .i64 s.o,.int .i64 s.r,.int .i64 s.a,.int .i64 s.b,.int .i64 s.n],.bool true])∧Below w.heap.size w w':=by
 have H:=hidM1 h
 have ec:=h.ec
 have ek:=h.ek
 subst ec ek
 clear h
 go_enter Tryz.func123,Tryz.ntmps123
 obtain ⟨W0,hW0,x0,k0,z0⟩:=X4.new w (.slice (some ⟨gc,0,none⟩) nc cc) (.slice (some ⟨gk,0,none⟩) nk ck) vm vt 38
 have s0:W0.heap.size=w.heap.size+1:=by rw [← hW0];simp
 obtain ⟨W,hW⟩:∃ W,W0.alloc (.cells #[.int .i64 0,.int .i64 0,.int .i64 0,.int .i64 0,.int .i64 0] 141)=W:=⟨_,rfl⟩
 have x5:=X5.new W0 0 0 0 0 0 141
 have k1:Below W0.heap.size W0 W:=by rw [← hW];exact (Below.refl _ _).alloc (Nat.le_refl _) _
 rw [hW,s0] at x5
 have HW:Hid ((w.alloc (.cells #[.slice (some ⟨gc,0,none⟩) nc cc,.slice (some ⟨gk,0,none⟩) nk ck,vm,vt] 38)).alloc (.cells #[.int .i64 0,.int .i64 0,.int .i64 0,.int .i64 0,.int .i64 0] 141)=W):=by
  show _=W
  rw [hW0]
  exact hW
 have X:=hidM1 (x0.keep k1 z0)
 have R:=hidM1 x5
 have K:=hidM1 (k0.trans (k1.mono (by omega)))
 have HS:=hidM1 (H.out.keep K.out)
 clear hW0 hW x0 k0 z0 s0 x5 k1 H
 go_upto_region 1 with fail
 rw [HW.out]
 clear HW
 obtain ⟨⟨xz,c0,c1,-,-⟩,-⟩:=X.out
 go_wp2_with (go_at_call 31;refine (isOneOf_is _ _ true _ (by have h1:=HS.out.wc;have h2:=HS.out.wk;unfold Plain.oneB;simp;omega)).mono ?_;rintro e w3 ⟨rfl,hw3⟩;have hw3':=hw3.symm;clear hw3;subst hw3')
 obtain ⟨-,-,d0,d1,e0,e1,e2,e3,e4,b1,b2,b3,zc,zk,zs⟩:=HS.out
 have b0:(0:Int)≤(who:Int):=by omega
 have b1':(who:Int) < (nc:Int):=by omega
 have b2':(who:Int) < (nk:Int):=by omega
 have b3':(p:Int) < (cl:Int):=by omega
 have b4:(0:Int)≤(p:Int):=by omega
 have hne:=ext_ne W
 have u0:=Ext.fit c0 xz
 have u1:=Ext.fit c1 xz
 have u2:=Ext.fit d0 zc
 have u3:=Ext.fit d1 zk
 refine regionExt W (by kernel_rfl) (by kernel_rfl) ?_
 repeat (go_big_quiet_step (fail))
 refine wpQuiet_nil ?_
 rintro w5 ⟨X5',rfl⟩
 obtain ⟨U,hU⟩:∃ U,X5'.w=U:=⟨_,rfl⟩
 have hb5:=X5'.b
 rw [hU] at hb5 ⊢
 have KU:=hidM1 (K.out.trans (hb5.mono K.out.size))
 have RU:=hidM1 (R.out.keep hb5)
 have HU:=hidM1 (HS.out.keep hb5)
 clear hU X5' hb5 hne u0 u1 u2 u3 c0 c1 xz d0 d1 e0 e1 e2 e3 e4 zc zk zs X R HS
 go_wp2_with fail
 refine (isOneOf_is _ _ true _ (by unfold Plain.oneB;simp;omega)).mono ?_
 rintro e w3 ⟨rfl,hw3⟩
 rw [hw3]
 clear hw3 w3
 obtain ⟨-,-,d0,d1,e0,e1,e2,e3,e4,-,-,-,zc,zk,zs⟩:=HU.out
 obtain ⟨r0,r1,r2,r3,r4,rf,rz⟩:=RU.out
 go_wp2
 obtain ⟨Z,hZ,x,bz⟩:=RU.out.put s.o s.r s.a s.b s.n
 refine bodyPost_ret (v:=.tuple #[.agg #[.int .i64 s.o,.int .i64 s.r,.int .i64 s.a,.int .i64 s.b,.int .i64 s.n],.bool true]) ?_ rfl ⟨rfl,?_⟩
 ·rw [hZ]
  simp [results,Tryz.results123,go_sem,x.c0,x.c1,x.c2,x.c3,x.c4]
 ·rw [hZ]
  exact bz _ _ KU.out (by omega)
theorem doesNo (at':Int) (s0 s1 s2 s3 s4:Int) (u:Value) (w:World):Calls Tryz.prog 125 #[.slice none 0 0,.int .i64 at',.agg #[.int .i64 s0,.int .i64 s1,.int .i64 s2,.int .i64 s3,.int .i64 s4],u] w fun e w'=>e=.returned (.bool false)∧Below w.heap.size w w':=by
 go_enter Tryz.func125,Tryz.ntmps125
 go_wp2_with (go_at_call 31;refine (isOneOf_is _ _ false _ (by unfold Plain.oneB;first | (simp;done) | (simp;omega))).mono ?_;rintro e w3 ⟨rfl,hw3⟩;have hw3':=hw3.symm;clear hw3;subst hw3')
 go_ret
 exact ⟨rfl,(Below.refl _ _).alloc (Nat.le_refl _) _⟩
/- a step told: the walk's box but for the notes, and all below the machine's rows, stay -/
def ToldR (w:World) (B bm:Nat) (vc vk vm:Value) (LC:List CV) (x:MD) (w':World):Prop:=∃ vt' LK' S',MQ0 w' B vc vk vm vt' LC LK' S' x∧w'.cell? ⟨bm,5,none⟩=some vt'∧(∀ j,j≠5→w'.cell? ⟨bm,j,none⟩=w.cell? ⟨bm,j,none⟩)∧(∀ j,w'.frozen? ⟨bm,j,none⟩=false)∧BxW w' bm∧Below B w w'
def CutT (V:World) (o r a b' n:Int) (s8 s9:Value) (wc:World):Prop:=∃ b,s8=.pointer (some ⟨b,0,none⟩)∧s9=.bool true∧X5 wc b o r a b' n∧V.heap.size≤b∧Below V.heap.size V wc
theorem cutT_new {V w5:World} {o r a b' n:Int} (k:Below V.heap.size V w5):CutT V o r a b' n (.pointer (some ⟨w5.heap.size,0,none⟩)) (.bool true) (w5.alloc (.cells #[.int .i64 o,.int .i64 r,.int .i64 a,.int .i64 b',.int .i64 n] 141)):=
 ⟨_,rfl,rfl,X5.new w5 o r a b' n _,k.size,k.trans ((Below.refl _ _).alloc k.size _)⟩
theorem cutT_set {V w5:World} {b:Nat} {o r a b' n:Int} (x:X5 w5 b 0 0 0 0 0) (hb:V.heap.size≤b) (k:Below V.heap.size V w5):CutT V o r a b' n (.pointer (some ⟨b,0,none⟩)) (.bool true) (((((w5.setCell ⟨b,0,none⟩ (.int .i64 o)).setCell ⟨b,1,none⟩ (.int .i64 r)).setCell ⟨b,2,none⟩ (.int .i64 a)).setCell ⟨b,3,none⟩ (.int .i64 b')).setCell ⟨b,4,none⟩ (.int .i64 n)):=by
 obtain ⟨Z,hZ,x',bz⟩:=x.put o r a b' n
 rw [hZ]
 exact ⟨b,rfl,rfl,x',hb,bz _ _ k hb⟩
set_option maxRecDepth 100000 in
set_option maxHeartbeats 4000000 in
theorem told_any {w : World} {B bm who : Nat} {vc vk vm vt : Value} {LC : List CV} {LK : List KV} {S : List RS} {d : MD} (h : MQ0 w B vc vk vm vt LC LK S d) (m0 : w.cell? ⟨bm, 2, none⟩ = some vc) (m1 : w.cell? ⟨bm, 3, none⟩ = some vk) (m2 : w.cell? ⟨bm, 4, none⟩ = some vm) (m3 : w.cell? ⟨bm, 5, none⟩ = some vt) (fm : ∀ j, w.frozen? ⟨bm, j, none⟩ = false) (bx : BxW w bm) (bB : B ≤ bm) (hB : B ≤ w.heap.size) (hm : machB d = true) (hw : who < d.cores.length) :
  Calls Tryz.prog 99 #[.pointer (some ⟨bm,2,none⟩),.slice none 0 0,.agg #[.int .i64 who,.int .i64 0]] w fun e w'=>e=.returned (.tuple #[.int .i64 (stepM d who 0).2,.bool false])∧ToldR w B bm vc vk vm LC (stepM d who 0).1 w':=by
 obtain ⟨k,code,s,ha⟩:=mach_at hm hw
 obtain ⟨p,gc,cc,gk,ck,gs,cs,h8,-⟩:=h.st8 ha
 have HOK:=hidM1 (stepM_ok who 0 hm)
 have HM:=hidM1 hm
 have H:=hidM1 h
 have zm:=bx.lt
 have BX:=hidM1 bx
 have BB:Hid (B≤bm∧B≤w.heap.size):=⟨bB,hB⟩
 have HW:=hidM1 hw
 have M0:=hidM1 m0
 have M1:=hidM1 m1
 have M2:=hidM1 m2
 have M3:=hidM1 m3
 have FM:=hidM1 fm
 have H8:=hidM1 h8
 have EK:=hidM1 h8.ek
 clear ha h m0 m1 m2 m3 fm bx bB hB hm hw h8
 obtain ⟨X,hX⟩:∃ X,stepM d who 0=X:=⟨_,rfl⟩
 have HX:=hidM1 hX
 rw [hX] at HOK ⊢
 clear hX
 go_enter Tryz.func99,Tryz.ntmps99
 obtain ⟨V,hV⟩:∃ V,w.alloc (.cells #[.int .i64 who,.int .i64 0] 121)=V:=⟨_,rfl⟩
 have kV:Below w.heap.size w V:=by rw [← hV];exact (Below.refl _ _).alloc (Nat.le_refl _) _
 have t0:V.cell? ⟨w.heap.size,0,none⟩=some (.int .i64 who):=by rw [← hV];simp [go_sem]
 have t1:V.cell? ⟨w.heap.size,1,none⟩=some (.int .i64 0):=by rw [← hV];simp [go_sem]
 have zV:w.heap.size < V.heap.size:=by rw [← hV];simp
 have HV:=hidM1 hV
 clear hV
 go_upto_region 1 with fail
 try rw [HV.out]
 clear HV
 have KV:=hidM1 kV
 have T0:=hidM1 t0
 have T1:=hidM1 t1
 have c2:=(kV.cell (p:=⟨bm,2,none⟩) zm).trans M0.out
 have c3:=(kV.cell (p:=⟨bm,3,none⟩) zm).trans M1.out
 have c4:=(kV.cell (p:=⟨bm,4,none⟩) zm).trans M2.out
 have c5:=(kV.cell (p:=⟨bm,5,none⟩) zm).trans M3.out
 have zmV:bm < V.heap.size:=by omega
 have kD:Below V.heap.size V V.drew:=Below.drew (Below.refl _ _)
 have kA:Below V.heap.size V ((V.alloc (.cells #[.int .i64 0,.int .i64 0,.int .i64 0,.int .i64 0,.int .i64 0] 141)).drew):=((Below.refl _ _).alloc (Nat.le_refl _) _).drew
 have HV8:=hidM1 (H8.out.keep kV)
 have HB:=hidM1 (HV8.out.keep kD)
 have HA:=hidM1 (HV8.out.keep kA)
 have KA:=hidM1 kA
 have KD:=hidM1 kD
 have XA:=hidM1 ((X5.new V 0 0 0 0 0 141).keep (V':=(V.alloc (.cells #[.int .i64 0,.int .i64 0,.int .i64 0,.int .i64 0,.int .i64 0] 141)).drew) ((Below.refl _ _).drew))
 have KEEP:Hid (∀ Y,Below V.heap.size V Y→Y.cell? ⟨bm,2,none⟩=some vc∧Y.cell? ⟨bm,3,none⟩=some vk∧Y.cell? ⟨bm,4,none⟩=some vm∧Y.cell? ⟨bm,5,none⟩=some vt∧Y.cell? ⟨w.heap.size,0,none⟩=some (.int .i64 who)):=fun Y hY=>⟨(hY.cell (p:=⟨bm,2,none⟩) zmV).trans c2,(hY.cell (p:=⟨bm,3,none⟩) zmV).trans c3,(hY.cell (p:=⟨bm,4,none⟩) zmV).trans c4,(hY.cell (p:=⟨bm,5,none⟩) zmV).trans c5,(hY.cell (p:=⟨w.heap.size,0,none⟩) zV).trans T0.out⟩
 clear kV kA
 go_cut [8,9] (fun s8 s9 wx=>CutT V s.o s.r s.a s.b s.n s8 s9 wx)
 case first=>
  go_region_held3 (fun w'=>w'.cell? ⟨bm,2,none⟩=some vc∧w'.cell? ⟨bm,3,none⟩=some vk∧w'.cell? ⟨bm,4,none⟩=some vm∧w'.cell? ⟨bm,5,none⟩=some vt∧w'.cell? ⟨w.heap.size,0,none⟩=some (.int .i64 who)) (first | exact KEEP.out _ (by repeat' (first | with_reducible exact kC.out | with_reducible exact kD | with_reducible exact Below.refl _ _ | with_reducible refine Below.drew ?_ | with_reducible refine Below.alloc ?_ (by first | omega | exact Nat.le_refl _ | (simp;done) | (simp;omega)) _ | with_reducible refine Below.setCell ?_ (by first | omega | exact Nat.le_refl _ | (simp;done) | (simp;omega)) _)) | go_keep) (first | (go_at_call 123;with_reducible refine (stepOf_any HA.out).mono ?_;rintro e w5 ⟨rfl,hb5⟩;have kC:=hidM1 (KA.out.trans (hb5.mono KA.out.size));have zC:=kC.out.size;have XC:=hidM1 (XA.out.keep hb5);clear hb5;obtain ⟨y0,y1,y2,y3,y4,yf,yz⟩:=XC.out;obtain ⟨q2,q3,q4,q5,q6⟩:=KEEP.out _ kC.out) | (go_at_call 123;with_reducible refine (stepOf_any HB.out).mono ?_;rintro e w5 ⟨rfl,hb5⟩;have kC:=hidM1 (KD.out.trans (hb5.mono KD.out.size));have zC:=kC.out.size;clear hb5;obtain ⟨q2,q3,q4,q5,q6⟩:=KEEP.out _ kC.out) | fail)
  all_goals
   go_wp2_with fail
   go_meet
   first
    | with_reducible exact cutT_new kC.out
    | with_reducible exact cutT_set XC.out (Nat.le_refl _) kC.out
 case rest=>
  obtain ⟨b5,rfl,rfl,x5,hb5,kc⟩:=hcut
  clear c2 c3 c4 c5 t0 t1 HA HB KA KD XA kD HV8
  obtain ⟨c2,c3,c4,c5,t0⟩:=KEEP.out _ kc
  have KC:=hidM1 (KV.out.trans (kc.mono (by omega)))
  have X5C:=hidM1 x5
  have zc:=kc.size
  have t1:=(kc.cell (p:=⟨w.heap.size,1,none⟩) zV).trans T1.out
  clear kc x5 KEEP KV T0 T1
  have zmc:bm < wc.heap.size:=by omega
  have zpc:w.heap.size < wc.heap.size:=by omega
  have b0:(0:Int)≤(who:Int):=by omega
  have b1:(who:Int) < (d.cores.length:Int):=by have:=HW.out;omega
  rw [EK.out] at c3
  go_wp2_with fail
  have hne:=ext_ne wc
  have u0:=Ext.fit c3 zmc
  have u1:=Ext.fit t0 zpc
  refine regionExt wc (by kernel_rfl) (by kernel_rfl) ?_
  repeat (go_big_quiet_step (fail))
  refine wpQuiet_nil ?_
  rintro w5 ⟨X5',rfl⟩
  obtain ⟨U,hU⟩:∃ U,X5'.w=U:=⟨_,rfl⟩
  have kb:=X5'.b
  rw [hU] at kb ⊢
  have KU:=hidM1 (KC.out.trans (kb.mono (by omega)))
  have XU:=hidM1 (X5C.out.keep kb)
  have t0':=(kb.cell (p:=⟨w.heap.size,0,none⟩) zpc).trans t0
  have t1':=(kb.cell (p:=⟨w.heap.size,1,none⟩) zpc).trans t1
  have M0U:=hidM1 ((kb.cell (p:=⟨bm,2,none⟩) zmc).trans c2)
  have M1U:Hid (U.cell? ⟨bm,3,none⟩=some vk):=by show _=_;rw [EK.out];exact (kb.cell (p:=⟨bm,3,none⟩) zmc).trans c3
  have M2U:=hidM1 ((kb.cell (p:=⟨bm,4,none⟩) zmc).trans c4)
  have M3U:=hidM1 ((kb.cell (p:=⟨bm,5,none⟩) zmc).trans c5)
  have zu:=kb.size
  have H8U:=hidM1 (H8.out.keep KU.out)
  have zpu:w.heap.size < U.heap.size:=by omega
  have SI:=hidM1 (stepIn_any (who:Int) 0 ((H.out.toH BB.out.2).hop (mach_mem HM.out) (fun k hk _=>KU.out.block k hk) KU.out.size) M0U.out M1U.out M2U.out M3U.out (fun j=>(KU.out.frozen (p:=⟨bm,j,none⟩) zm).trans (FM.out j)) (BX.out.same (KU.out.block bm zm)) BB.out.1 (by have:=BB.out;omega) HM.out (by omega))
  rw [HX.out] at SI
  clear hU X5' kb hne u0 u1 c2 c3 c4 c5 t0 t1 X5C KC H8 M2U M3U
  obtain ⟨-,-,-,k0,-,-,-,-,-,-,-,-,-,zk,-⟩:=H8U.out
  go_wp2_with (go_at_call 124;refine Calls.mono SI.out ?_;rintro e w9 ⟨rfl,vt',LK',S',hq,q5,cj,fj,bx9,b9,fr⟩)
  have zbu:=XU.out.z
  have hbw:b5≠bm:=by omega
  have x9:w9.heap[b5]? =U.heap[b5]? :=fr b5 zbu (fun e=>e.elim (fun e=>by have:=e.1;omega) (fun e=>by omega)) hbw
  have X9:Hid (X5 w9 b5 s.o s.r s.a s.b s.n):=⟨(World.cell?_of_block x9).trans XU.out.c0,(World.cell?_of_block x9).trans XU.out.c1,(World.cell?_of_block x9).trans XU.out.c2,(World.cell?_of_block x9).trans XU.out.c3,(World.cell?_of_block x9).trans XU.out.c4,fun j=>(World.frozen?_of_block x9).trans (XU.out.f j),Nat.lt_of_lt_of_le zbu b9.size⟩
  have TR:Hid (ToldR w B bm vc vk vm LC X.1 w9):=⟨vt',LK',S',hq.toMQ0,q5,fun j hj=>(cj j hj).trans (KU.out.cell (p:=⟨bm,j,none⟩) zm),fj,bx9,(KU.out.mono BB.out.2).trans b9⟩
  have RC:Hid (∃ (gr cr:Nat),w9.cell? ⟨gk,who * 4+1,none⟩=some (.slice (some ⟨gr,0,none⟩) 8 cr)∧gk < w9.heap.size):=by
   obtain ⟨sk,ck',ev⟩:=ownSl hq.k.row
   rw [EK.out] at ev
   injection ev with _ ev _
   have l2:LK'.length=X.1.cores.length:=by rw [← hq.ek,List.length_map]
   obtain ⟨k2,code2,s2,ha2⟩:=mach_at HOK.out (who:=who) (by have:=HW.out;omega)
   obtain ⟨p2,gc2,cc2,gk2,ck2,gs2,cs2,gr2,cr2,gv2,cv2,gO2,cO2,st2,ct2,o⟩:=hq.toMQ0.open ha2
   have e2:=o.ek
   rw [EK.out] at e2
   injection e2 with e2 _ _
   injection e2 with e2
   injection e2 with e2
   exact ⟨gr2,cr2,by rw [e2];exact o.k1,by rw [e2];exact o.zk⟩
  obtain ⟨gr,cr,rc,zgk⟩:=RC.out
  obtain ⟨D,cc'⟩:=X
  dsimp only at TR ⊢
  clear SI hq q5 cj fj bx9 b9 fr x9 XU RC k0 zk HX HOK M0U M1U H8U t0' t1'
  obtain ⟨r0,r1,r2,r3,r4,-,rz⟩:=X9.out
  have hne:=ext_ne w9
  have u0:=Ext.fit r0 rz
  have u1:=Ext.fit r1 rz
  have u2:=Ext.fit r2 rz
  have u3:=Ext.fit r3 rz
  have u4:=Ext.fit r4 rz
  have u5:=Ext.fit rc zgk
  by_cases h0:cc'=0
  case' pos=>
   subst h0
   refine regionExt w9 (by kernel_rfl) (by kernel_rfl) ?_
   repeat (go_big_quiet_step (first | (rename_i X;go_at_call 125;refine (doesNo _ _ _ _ _ _ _ X.w).mono ?_;rintro e w3 ⟨rfl,hb3⟩;exact ⟨rfl,X.on hb3⟩) | fail))
  case' neg=>
   have c0:(cc'==0)=false:=by simp;omega
   refine regionExt w9 (by kernel_rfl) (by kernel_rfl) ?_
   repeat (go_big_quiet_step (fail))
  all_goals
   refine wpQuiet_nil ?_
   rintro w7 ⟨X7,rfl⟩
   have kb:=X7.b
   go_wp2
   refine bodyPost_ret (v:=.tuple #[.int .i64 _,.bool false]) (by simp [results,Tryz.results99,go_sem]) rfl ⟨rfl,?_⟩
   obtain ⟨vt2,LK2,S2,q,q5,cj,fj,bx9,b9⟩:=TR.out
   have zb:=bx9.lt
   exact ⟨vt2,LK2,S2,q.keep (fun k _ h1=>kb.block k h1) kb.size,(kb.cell (p:=⟨bm,5,none⟩) zb).trans q5,fun j hj=>(kb.cell (p:=⟨bm,j,none⟩) zb).trans (cj j hj),fun j=>(kb.frozen (p:=⟨bm,j,none⟩) zb).trans (fj j),bx9.same (kb.block bm zb),b9.trans (kb.mono (Nat.le_trans BB.out.2 (Nat.le_trans (by omega) (Nat.le_refl _))))⟩
end
end Go.Proofs.YtlbeploopclegaaGreat
