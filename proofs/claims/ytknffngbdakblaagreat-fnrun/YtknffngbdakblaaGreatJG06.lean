/- SourceOk of the program: threads, channels and the trace, each as the plain law says. Conditions: lists of at most 1048576. What a place does, as a function of lists, and what one store makes of a source that a call has made. No condition. l4Bit and l4Go of the specification. Conditions: the thread is one of the source's, and runs. -/
import Derived.Test.YtknffngbdakblaaGreatJG00
import Derived.Test.YtknffngbdakblaaGreatJSpecIns
import Derived.Test.YtknffngbdakblaaGreatJProgOk
import Derived.Test.YtknffngbdakblaaGreatJG01
import Derived.Test.YtknffngbdakblaaGreatJLeaves
import Derived.Test.YtknffngbdakblaaGreatJProgOk2
import Derived.Deep.RegionWith
import Derived.Test.YtknffngbdakblaaGreatJG03
import Derived.Test.YtknffngbdakblaaGreatJG04
import Derived.Test.YtknffngbdakblaaGreatJSrcDup
import Derived.Test.YtknffngbdakblaaGreatJChTake
import Derived.Test.YtknffngbdakblaaGreatJG05
namespace Go.Proofs.YtknffngbdakblaaGreat
section
set_option linter.unusedSimpArgs false
set_option linter.unusedVariables false
set_option maxRecDepth 100000
open Go.RowKit
noncomputable def allB {α:Type} (l:List α) (f:Nat→α→Bool):Bool:=@decide (∀ (i:Nat) (t:α),l[i]? =some t→f i t=true) (Classical.propDecidable _)
theorem all_no {α:Type} {l:List α} {f:Nat→α→Bool} {k:Nat} {t:α} (hk:l[k]? =some t) (h:f k t=false):allB l f=false:=by
 unfold allB
 rw [@decide_eq_false_iff_not _ (Classical.propDecidable _)]
 intro hh
 rw [hh k t hk] at h
 cases h
theorem all_yes {α:Type} {l:List α} {f:Nat→α→Bool} (h:∀ (i:Nat) (t:α),l[i]? =some t→f i t=true):allB l f=true:=by
 unfold allB
 rw [@decide_eq_true_iff _ (Classical.propDecidable _)]
 exact h
theorem all_get {α:Type} {l:List α} {f:Nat→α→Bool} (h:allB l f=true):∀ (i:Nat) (t:α),l[i]? =some t→f i t=true:=by
 unfold allB at h
 rw [@decide_eq_true_iff _ (Classical.propDecidable _)] at h
 exact h
def thB (t:TD) (n:Nat):Bool:=decide (t.regs.length=4)&&(Plain.inB t.st 0 2&&Plain.oneB t.pc n)
def chB (c:CD) (cap:Int):Bool:=(Plain.inB c.cap 1 4&&decide ((c.list.length:Int)≤c.cap))&&decide (c.cap=cap)
noncomputable def thsB (l:List TD) (bs:List (List I5)):Bool:=decide (l.length=bs.length)&&allB l (fun i t=>thB t (bs.getD i []).length)
noncomputable def chsB (l:List CD) (cs:List Int):Bool:=decide (l.length=cs.length)&&allB l (fun i t=>chB t (cs.getD i 0))
noncomputable def trB (l:List ND) (n:Nat):Bool:=decide (l.length≤4000)&&allB l (fun _ t=>Plain.oneB t.who n)
noncomputable def srcB (p:PD) (d:SD):Bool:=progB p&&(thsB d.ths p.bods&&(chsB d.chs p.caps&&trB d.tr p.bods.length))
theorem isState_any (n:Int) (w:World):Calls Tryz.prog 87 #[.int .i64 n] w fun e w'=>e=.returned (.bool (Plain.inB n 0 2))∧w'=w:=by
 by_cases h0:n=0
 ·subst h0
  go_enter Tryz.func87,Tryz.ntmps87
  go_wp2
  go_ret
  exact ⟨rfl,rfl⟩
 by_cases h1:n=1
 ·subst h1
  go_enter Tryz.func87,Tryz.ntmps87
  go_wp2
  go_ret
  exact ⟨rfl,rfl⟩
 by_cases h2:n=2
 ·subst h2
  go_enter Tryz.func87,Tryz.ntmps87
  go_wp2
  go_ret
  exact ⟨rfl,rfl⟩
 ·have e0:(n==0)=false:=by simpa using h0
  have e1:(n==1)=false:=by simpa using h1
  have e2:(n==2)=false:=by simpa using h2
  have F:Hid (Plain.inB n 0 2=false):=by show _=_;simp [Plain.inB];omega
  clear h0 h1 h2
  go_enter Tryz.func87,Tryz.ntmps87
  go_wp2
  go_ret
  exact ⟨by rw [F.out];rfl,rfl⟩
set_option maxHeartbeats 1000000 in
theorem threadOk_any (pc st : Int) (s s' : Option Addr) (l : List Int) (n c c' : Nat) (w : World) (hl : l.length ≤ 1048576) (hn : n ≤ 1048576) :
  Calls Tryz.prog 63 #[.agg #[.int .i64 pc,.slice s l.length c,.int .i64 st],.slice s' n c'] w fun e w'=>e=.returned (.bool (thB ⟨pc,l,st⟩ n))∧Below w.heap.size w w':=by
 by_cases h4:l.length=4
 ·have e4:((l.length:Int)==4)=true:=by simp;omega
  have E:Hid (thB ⟨pc,l,st⟩ n=(Plain.inB st 0 2&&Plain.oneB pc n)):=by show _=_;unfold thB;rw [decide_eq_true h4];rfl
  clear h4
  cases hs:Plain.inB st 0 2
  ·have HS:Hid (Plain.inB st 0 2=false):=hs
   clear hs
   go_enter Tryz.func63,Tryz.ntmps63
   go_wp2_with (go_at_call 87;refine (isState_any _ _).mono ?_;rintro e w' ⟨rfl,rfl⟩;rw [HS.out])
   go_ret
   exact ⟨by rw [E.out,HS.out];rfl,(Below.refl _ _).alloc (Nat.le_refl _) _⟩
  ·have HS:Hid (Plain.inB st 0 2=true):=hs
   clear hs
   go_enter Tryz.func63,Tryz.ntmps63
   go_wp2_with (first | (go_at_call 87;refine (isState_any _ _).mono ?_;rintro e w' ⟨rfl,rfl⟩;rw [HS.out]) | (go_at_call 49;refine (isOneOf_any _ _ _).mono ?_;rintro e w' ⟨rfl,rfl⟩))
   go_ret
   exact ⟨by rw [E.out,HS.out];rfl,(Below.refl _ _).alloc (Nat.le_refl _) _⟩
 ·have e4:((l.length:Int)==4)=false:=by simp;omega
  have E:Hid (thB ⟨pc,l,st⟩ n=false):=by show _=_;unfold thB;rw [decide_eq_false h4];rfl
  clear h4
  go_enter Tryz.func63,Tryz.ntmps63
  go_wp2
  go_ret
  exact ⟨by rw [E.out];rfl,(Below.refl _ _).alloc (Nat.le_refl _) _⟩
set_option maxHeartbeats 1000000 in
theorem chanOk_any (cap:Int) (s:Option Addr) (n c:Nat) (cl:Bool) (w:World) (hn:n≤1048576):Calls Tryz.prog 64 #[.agg #[.int .i64 cap,.slice s n c,.bool cl]] w fun e w'=>e=.returned (.bool (Plain.inB cap 1 4&&decide ((n:Int)≤cap)))∧Below w.heap.size w w':=by
 cases h1:Plain.inB cap 1 4
 ·have H1:Hid (Plain.inB cap 1 4=false):=h1
  clear h1
  go_enter Tryz.func64,Tryz.ntmps64
  go_wp2_with (go_at_call 84;refine (capOk_any _ _).mono ?_;rintro e w' ⟨rfl,rfl⟩;rw [H1.out])
  go_ret
  exact ⟨rfl,(Below.refl _ _).alloc (Nat.le_refl _) _⟩
 ·have H1:Hid (Plain.inB cap 1 4=true):=h1
  clear h1
  by_cases h2:(n:Int)≤cap
  ·have E:Hid (decide ((n:Int)≤cap)=true):=decide_eq_true h2
   go_enter Tryz.func64,Tryz.ntmps64
   go_wp2_with (go_at_call 84;refine (capOk_any _ _).mono ?_;rintro e w' ⟨rfl,rfl⟩;rw [H1.out])
   go_ret
   exact ⟨by rw [E.out];rfl,(Below.refl _ _).alloc (Nat.le_refl _) _⟩
  ·have E:Hid (decide ((n:Int)≤cap)=false):=decide_eq_false h2
   go_enter Tryz.func64,Tryz.ntmps64
   go_wp2_with (go_at_call 84;refine (capOk_any _ _).mono ?_;rintro e w' ⟨rfl,rfl⟩;rw [H1.out])
   go_ret
   exact ⟨by rw [E.out];rfl,(Below.refl _ _).alloc (Nat.le_refl _) _⟩
set_option maxHeartbeats 1000000 in
theorem sChanOk_any (cap:Int) (s:Option Addr) (n c:Nat) (cl:Bool) (w:World) (hn:n≤1048576):Calls Tryz.prog 35 #[.agg #[.int .i64 cap,.slice s n c,.bool cl]] w fun e w'=>e=.returned (.bool (Plain.inB cap 1 4&&decide ((n:Int)≤cap)))∧Below w.heap.size w w':=by
 cases h1:Plain.inB cap 1 4
 ·have H1:Hid (Plain.inB cap 1 4=false):=h1
  clear h1
  go_enter Tryz.func35,Tryz.ntmps35
  go_wp2_with (go_at_call 34;refine (l1In_any _ _ _ _).mono ?_;rintro e w' ⟨rfl,rfl⟩;rw [H1.out])
  go_ret
  exact ⟨rfl,(Below.refl _ _).alloc (Nat.le_refl _) _⟩
 ·have H1:Hid (Plain.inB cap 1 4=true):=h1
  clear h1
  by_cases h2:(n:Int)≤cap
  ·have E:Hid (decide ((n:Int)≤cap)=true):=decide_eq_true h2
   go_enter Tryz.func35,Tryz.ntmps35
   go_wp2_with (go_at_call 34;refine (l1In_any _ _ _ _).mono ?_;rintro e w' ⟨rfl,rfl⟩;rw [H1.out])
   go_ret
   exact ⟨by rw [E.out];rfl,(Below.refl _ _).alloc (Nat.le_refl _) _⟩
  ·have E:Hid (decide ((n:Int)≤cap)=false):=decide_eq_false h2
   go_enter Tryz.func35,Tryz.ntmps35
   go_wp2_with (go_at_call 34;refine (l1In_any _ _ _ _).mono ?_;rintro e w' ⟨rfl,rfl⟩;rw [H1.out])
   go_ret
   exact ⟨by rw [E.out];rfl,(Below.refl _ _).alloc (Nat.le_refl _) _⟩
set_option maxRecDepth 100000 in
set_option maxHeartbeats 2000000 in
theorem threadsOk_any (s s' : Option Addr) (c c' lo hi lo' hi' : Nat) (l : List TD) (bs : List (List I5)) (w : World) (h : RecsR w lo hi s (l.map TD.rec3)) (h' : BodsR w lo' hi' s' bs) (hB : hi ≤ w.heap.size) (hB' : hi' ≤ w.heap.size) (hl : l.length ≤ 1048576) (hls : ∀ (i : Nat) (t : TD), l[i]? = some t → t.regs.length ≤ 1048576) (hm : bs.length ≤ 1048576) (hms : ∀ i, i < bs.length → (bs.getD i []).length ≤ 1048576) :
  Calls Tryz.prog 46 #[.slice s l.length c,.slice s' bs.length c'] w fun e w'=>e=.returned (.bool (thsB l bs))∧Below w.heap.size w w':=by
 have H1:Hid (RecsR w lo hi s (l.map TD.rec3)):=h
 have H2:Hid (BodsR w lo' hi' s' bs):=h'
 have Q1:Hid (∀ (i:Nat) (t:TD),l[i]? =some t→t.regs.length≤1048576):=hls
 have Q2:Hid (∀ i,i < bs.length→(bs.getD i []).length≤1048576):=hms
 clear h h' hls hms
 by_cases hn:l.length=bs.length
 ·have hne:((l.length:Int) !=(bs.length:Int))=false:=by simp;omega
  have E:Hid (thsB l bs=allB l (fun i t=>thB t (bs.getD i []).length)):=by show _=_;unfold thsB;rw [decide_eq_true hn];rfl
  have HN:Hid (l.length=bs.length):=hn
  clear hn
  go_enter Tryz.func46,Tryz.ntmps46
  go_wp2
  go_loopw [14] (fun i wr=>∃ k:Nat,k≤l.length∧i=.int .i64 k∧Below w.heap.size w wr∧(∀ (i:Nat) (t:TD),i < k→l[i]? =some t→thB t (bs.getD i []).length=true)) (fun i _=>l.length - (intOf i).toNat)
  case atStart=>exact ⟨0,Nat.zero_le _,rfl,Below.refl _ _,fun i t hi=>absurd hi (Nat.not_lt_zero _)⟩
  case round=>
   obtain ⟨k,hk,rfl,hb,hd⟩:=hrel
   have HB:Hid (Below w.heap.size w wr):=hb
   have HD:Hid (∀ (i:Nat) (t:TD),i < k→l[i]? =some t→thB t (bs.getD i []).length=true):=hd
   have hsz:=hb.size
   clear hb hd
   by_cases hlt:k < l.length
   ·have hlt':k < bs.length:=by have:=HN.out;omega
    obtain ⟨t,ht⟩:∃ t,l[k]? =some t:=⟨_,List.getElem?_eq_getElem hlt⟩
    have hm:(l.map TD.rec3)[k]? =some t.rec3:=by rw [List.getElem?_map,ht];rfl
    obtain ⟨g,off,hs,hg,hc⟩:∃ g off,s=some ⟨g,off,none⟩∧g < w.heap.size∧RecR wr lo hi g (off+k * 3) t.rec3:=by
     rcases H1.out with h | ⟨g,off,a,b,d,e⟩
     ·rw [h] at hm;simp at hm
     ·exact ⟨g,off,a,by omega,(e k _ hm).keep (Keep.of_below HB.out hB) (fun j=>HB.out.cell (p:=⟨g,j,none⟩) (by show g < _;omega))⟩
    obtain ⟨g',off',hs',hg',hc'⟩:∃ g off,s'=some ⟨g,off,none⟩∧g < w.heap.size∧BodR wr lo' hi' g (off+k) (bs.getD k []):=by
     rcases H2.out with h | ⟨g,off,a,b,d,e⟩
     ·rw [h] at hlt';simp at hlt'
     ·exact ⟨g,off,a,by omega,(e k hlt').keep (Keep.of_below HB.out hB') (HB.out.cell (p:=⟨g,off+k,none⟩) (by show g < _;omega))⟩
    subst hs
    subst hs'
    have hlen:=Q1.out k t ht
    have hlen':=Q2.out k hlt'
    obtain ⟨s1,c1,f0,f1,f2,-⟩:=hc
    obtain ⟨s2,c2,f3,-⟩:=hc'
    have HT:Hid (l[k]? =some t):=ht
    obtain ⟨pc,rg,st⟩:=t
    simp only [TD.rec3] at f0 f1 f2 hlen
    have hgw:g < wr.heap.size:=by omega
    have hgw':g' < wr.heap.size:=by omega
    have HXn:Hid (∃ n,(bs.getD k []).length=n):=⟨_,rfl⟩
    obtain ⟨n,hx⟩:=HXn.out
    rw [hx] at f3 hlen'
    have HX:Hid ((bs.getD k []).length=n):=hx
    clear hx ht hm HXn
    have b0:(0:Int)≤(k:Int):=by omega
    have b1:(k:Int) < (l.length:Int):=by omega
    have b2:(k:Int) < (bs.length:Int):=by omega
    obtain ⟨bv,hv⟩:∃ b,thB ⟨pc,rg,st⟩ n=b:=⟨_,rfl⟩
    have HV:Hid (thB ⟨pc,rg,st⟩ n=bv):=hv
    clear hv
    go_wp2_with fail
    obtain ⟨W,hW⟩:∃ W,wr.alloc (.cells #[.int .i64 pc,.slice s1 rg.length c1,.int .i64 st] 49)=W:=⟨_,rfl⟩
    have kW:Below wr.heap.size wr W:=by rw [← hW];exact (Below.refl _ _).alloc (Nat.le_refl _) _
    have x0:W.cell? ⟨wr.heap.size,0,none⟩=some (.int .i64 pc):=by rw [← hW];simp [go_sem]
    have x1:W.cell? ⟨wr.heap.size,1,none⟩=some (.slice s1 rg.length c1):=by rw [← hW];simp [go_sem]
    have x2:W.cell? ⟨wr.heap.size,2,none⟩=some (.int .i64 st):=by rw [← hW];simp [go_sem]
    have zW:wr.heap.size < W.heap.size:=by rw [← hW];simp
    have f3':=(kW.cell (p:=⟨g',off'+k,none⟩) hgw').trans f3
    have KW:Hid (Below wr.heap.size wr W):=kW
    rw [hW]
    clear hW kW f0 f1 f2 f3
    cases bv
    ·have F:Hid (thsB l bs=false):=by show _=_;rw [E.out];exact all_no HT.out (by rw [HX.out];exact HV.out)
     first | go_region_with (go_at_call 63;refine (threadOk_any pc st s1 s2 rg n c1 c2 _ hlen hlen').mono ?_;rintro e w1 ⟨rfl,hb1⟩;rw [HV.out]) | fail
     all_goals
      have HB1:Hid (Below wr.heap.size wr w1):=KW.out.trans (Below.mono (show Below W.heap.size W w1 from ⟨hb1.os,hb1.tape,hb1.output,hb1.size,hb1.block⟩) (by omega))
      clear hb1
      go_wp2
      go_ret
      exact ⟨by rw [F.out];rfl,HB.out.trans (HB1.out.mono hsz)⟩
    ·first | go_region_with (go_at_call 63;refine (threadOk_any pc st s1 s2 rg n c1 c2 _ hlen hlen').mono ?_;rintro e w1 ⟨rfl,hb1⟩;rw [HV.out]) | fail
     all_goals
      have HB1:Hid (Below wr.heap.size wr w1):=KW.out.trans (Below.mono (show Below W.heap.size W w1 from ⟨hb1.os,hb1.tape,hb1.output,hb1.size,hb1.block⟩) (by omega))
      clear hb1
      go_wp2
      go_roundw
      case rel=>
       refine ⟨k+1,by omega,by go_num,HB.out.trans (HB1.out.mono hsz),fun i t hi ht=>?_⟩
       by_cases e:i=k
       ·subst e
        rw [HT.out] at ht
        injection ht with ht
        subst ht
        rw [HX.out]
        exact HV.out
       ·exact HD.out i t (by omega) ht
      case measure=>simp [intOf];omega
   ·go_wp2
    go_ret
    exact ⟨by rw [E.out,all_yes (fun i t ht=>HD.out i t (by have:=(List.getElem?_eq_some_iff.1 ht).1;omega) ht)];rfl,HB.out⟩
 ·have hne:((l.length:Int) !=(bs.length:Int))=true:=by simp;omega
  have E:Hid (thsB l bs=false):=by show _=_;unfold thsB;rw [decide_eq_false hn];rfl
  clear hn
  go_enter Tryz.func46,Tryz.ntmps46
  go_wp2
  go_ret
  exact ⟨by rw [E.out];rfl,Below.refl _ _⟩
end
section
set_option linter.unusedSimpArgs false
set_option linter.unusedVariables false
set_option maxRecDepth 100000
open Go.RowKit
def regN (r:List Int) (i:Int):Int:=r.getD i.toNat 0
def putN (r:List Int) (i v:Int):List Int:=r.set i.toNat v
def bitN (b:Bool):Int:=if b then 1 else 0
def zc:CD:=⟨0,[],false⟩
def zt:TD:=⟨0,[],0⟩
def moveT (t:TD) (b:Nat) (rg:List Int) (next:Int):TD:=if 0≤next∧next < b then ⟨next,rg,0⟩ else ⟨t.pc,rg,2⟩
def haltT (t:TD) (st:Int):TD:=⟨t.pc,t.regs,st⟩
/- a place of a thread that runs: the thread, the channels, the notes then, and the code -/
structure Out where
 t:TD
 chs:List CD
 tr:List ND
 code:Int
def stepO (b:Nat) (t:TD) (x:I5) (chs:List CD) (tr:List ND) (k:Nat):Out:=
 let c:=chs.getD x.n.toNat zc
 let ra:=regN t.regs x.a
 let rb:=regN t.regs x.b
 if x.o=1 then ⟨moveT t b (putN t.regs x.r x.n) (t.pc+1),chs,tr,0⟩
 else if x.o=2 then ⟨moveT t b (putN t.regs x.r (IntKind.i64.wrap (ra+rb))) (t.pc+1),chs,tr,0⟩
 else if x.o=3 then ⟨moveT t b (putN t.regs x.r (IntKind.i64.wrap (ra - rb))) (t.pc+1),chs,tr,0⟩
 else if x.o=4 then ⟨moveT t b (putN t.regs x.r (bitN (decide (ra < rb)))) (t.pc+1),chs,tr,0⟩
 else if x.o=5 then
  (if sendK c.cap c.list c.cl=1 then ⟨t,chs,tr,4⟩
   else if sendK c.cap c.list c.cl=2 then ⟨haltT t 2,chs.set x.n.toNat ⟨c.cap,sendL c.cap c.list c.cl ra,c.cl⟩,tr,0⟩
   else ⟨moveT t b t.regs (t.pc+1),chs.set x.n.toNat ⟨c.cap,sendL c.cap c.list c.cl ra,c.cl⟩,tr,0⟩)
 else if x.o=6 then
  (if takeK c.cap c.list c.cl=1 then ⟨t,chs,tr,4⟩
   else ⟨moveT t b (putN (putN t.regs x.r (takeV c.cap c.list)) x.b (bitN (decide (takeK c.cap c.list c.cl=0)))) (t.pc+1),chs.set x.n.toNat ⟨c.cap,takeL c.cap c.list,c.cl⟩,tr,0⟩)
 else if x.o=7 then
  (if sendK c.cap c.list c.cl=2 then ⟨haltT t 2,chs.set x.n.toNat ⟨c.cap,sendL c.cap c.list c.cl ra,c.cl⟩,tr,0⟩
   else ⟨moveT t b (putN t.regs x.r (bitN (decide (sendK c.cap c.list c.cl=0)))) (t.pc+1),chs.set x.n.toNat ⟨c.cap,sendL c.cap c.list c.cl ra,c.cl⟩,tr,0⟩)
 else if x.o=8 then ⟨moveT t b (putN (putN t.regs x.r (takeV c.cap c.list)) x.b (if takeK c.cap c.list c.cl=0 then 1 else if takeK c.cap c.list c.cl=3 then 2 else 0)) (t.pc+1),chs.set x.n.toNat ⟨c.cap,takeL c.cap c.list,c.cl⟩,tr,0⟩
 else if x.o=9 then
  (if closeK c.cap c.list c.cl=2 then ⟨haltT t 2,chs.set x.n.toNat ⟨c.cap,c.list,closeB c.cap c.list c.cl⟩,tr,0⟩
   else ⟨moveT t b t.regs (t.pc+1),chs.set x.n.toNat ⟨c.cap,c.list,closeB c.cap c.list c.cl⟩,tr,0⟩)
 else if x.o=10 then (if tr.length=4000 then ⟨t,chs,tr,3⟩ else ⟨moveT t b t.regs (t.pc+1),chs,tr++[⟨k,ra⟩],0⟩)
 else if x.o=11 then ⟨moveT t b t.regs x.n,chs,tr,0⟩
 else if x.o=12 then ⟨moveT t b t.regs (if ra=0 then x.n else t.pc+1),chs,tr,0⟩
 else ⟨haltT t 1,chs,tr,0⟩
def bodyOf (p:PD) (k:Nat):List I5:=p.bods.getD k []
def thOf (d:SD) (k:Nat):TD:=d.ths.getD k zt
def insOf (p:PD) (d:SD) (k:Nat):I5:=(bodyOf p k).getD (thOf d k).pc.toNat z5
def outOf (p:PD) (d:SD) (k:Nat):Out:=stepO (bodyOf p k).length (thOf d k) (insOf p d k) d.chs d.tr k
def doneS (d:SD) (k:Nat) (o:Out):SD:=⟨d.ths.set k o.t,o.chs,o.tr⟩
/- SourceStep of what is right -/
def stepK (p:PD) (d:SD) (who:Int):Int:=if 0≤who∧who < d.ths.length then (if (thOf d who.toNat).st=0 then (outOf p d who.toNat).code else 3) else 2
def stepS (p:PD) (d:SD) (who:Int):SD:=if stepK p d who=0 then doneS d who.toNat (outOf p d who.toNat) else d
/- stores into a row of records -/
theorem flatR_set:∀ (L:List (Rec×Value)) (k:Nat) (x:Rec×Value),L[k]? =some x→∀ v,(flatR L).set (k * 3) v=flatR (L.set k (⟨v,x.1.l,x.1.z⟩,x.2))∧(flatR L).set (k * 3+1) v=flatR (L.set k (x.1,v))∧(flatR L).set (k * 3+2) v=flatR (L.set k (⟨x.1.a,x.1.l,v⟩,x.2))
 | [],k,x,h,v=>by simp at h
 | y::r,0,x,h,v=>by
  simp at h
  subst h
  exact ⟨rfl,rfl,rfl⟩
 | y::r,k+1,x,h,v=>by
  have h':r[k]? =some x:=by simpa using h
  obtain ⟨a,b,c⟩:=flatR_set r k x h' v
  have e0:(k+1) * 3=k * 3+3:=by omega
  refine ⟨?_,?_,?_⟩
  ·rw [e0]
   show [y.1.a,y.2,y.1.z]++(flatR r).set (k * 3) v=_
   rw [a];rfl
  ·rw [show (k+1) * 3+1=(k * 3+1)+3 by omega]
   show [y.1.a,y.2,y.1.z]++(flatR r).set (k * 3+1) v=_
   rw [b];rfl
  ·rw [show (k+1) * 3+2=(k * 3+2)+3 by omega]
   show [y.1.a,y.2,y.1.z]++(flatR r).set (k * 3+2) v=_
   rw [c];rfl
theorem set_at {α:Type} {L:List α} {k i:Nat} {y z:α} (h:(L.set k y)[i]? =some z):(i=k∧z=y∧k < L.length)∨(i≠k∧L[i]? =some z):=by
 by_cases e:i=k
 ·subst e
  have hi:i < L.length:=by have:=(List.getElem?_eq_some_iff.1 h).1;simpa using this
  rw [List.getElem?_set_self hi] at h
  injection h with h
  exact .inl ⟨rfl,h.symm,hi⟩
 ·rw [List.getElem?_set_ne (Ne.symm e)] at h
  exact .inr ⟨e,h⟩
theorem OwnQ.upd {w w' : World} {base : Nat} {e : TypeId} {v : Value} {L : List (Rec × Value)} {k : Nat} {y : Rec × Value} (h : OwnQ w base e v L) (hrow : w'.ownsRow base e 3 v L.length (flatR (L.set k y))) (hy : OwnN w' base y.2 y.1.l)
  (hoth:∀ (i:Nat) (z:Rec×Value),i≠k→L[i]? =some z→∀ b,z.2.ownBlock=some b→w'.heap[b]? =w.heap[b]?) (hsep:∀ (i:Nat) (z:Rec×Value) (b:Nat),i≠k→L[i]? =some z→y.2.ownBlock=some b→z.2.ownBlock≠some b):OwnQ w' base e v (L.set k y):=by
 refine ⟨by rw [List.length_set];exact hrow,fun i z hz=>?_,fun i j z z' b hz hz' hne=>?_⟩
 ·rcases set_at hz with ⟨-,rfl,-⟩ | ⟨hi,hz⟩
  ·exact hy
  ·exact ownKeep' (h.inn i z hz) (hoth i z hi hz)
 ·rcases set_at hz with ⟨ei,ez,-⟩ | ⟨hi,hz1⟩<;>rcases set_at hz' with ⟨ej,ez',-⟩ | ⟨hj,hz2⟩
  ·omega
  ·rw [ez]
   exact hsep j z' b hj hz2
  ·rw [ez']
   intro a c
   exact hsep i z b hi hz1 c a
  ·exact h.sep i j z z' b hz1 hz2 hne
theorem hitQ_set {v:Value} {L:List (Rec×Value)} {k b:Nat} {x y:Rec×Value} (hx:L[k]? =some x) (h:HitQ v (L.set k y) b) (hy:y.2=x.2):HitQ v L b:=by
 rcases h with h | ⟨i,z,hz,hb⟩
 ·exact .inl h
 ·rcases set_at hz with ⟨-,rfl,-⟩ | ⟨-,hz⟩
  ·exact .inr ⟨k,x,hx,by rw [← hy];exact hb⟩
  ·exact .inr ⟨i,z,hz,hb⟩
theorem hitQ_put {v:Value} {L:List (Rec×Value)} {k b:Nat} {y:Rec×Value} (h:HitQ v (L.set k y) b):HitQ v L b∨y.2.ownBlock=some b:=by
 rcases h with h | ⟨i,z,hz,hb⟩
 ·exact .inl (.inl h)
 ·rcases set_at hz with ⟨-,rfl,-⟩ | ⟨-,hz⟩
  ·exact .inr hb
  ·exact .inl (.inr ⟨i,z,hz,hb⟩)
/- where a thread lies -/
theorem OwnS.thread {w:World} {base:Nat} {v1 v2 v3:Value} {L1 L2:List (Rec×Value)} {d:SD} (h:OwnS w base v1 v2 v3 L1 L2 d) {k:Nat} {t:TD} (ht:d.ths[k]? =some t):∃ (g c:Nat) (x:Rec×Value),v1=.slice (some ⟨g,0,none⟩) d.ths.length c∧L1[k]? =some x∧x.1=t.rec3∧base≤g∧g < w.heap.size∧w.cell? ⟨g,k * 3,none⟩=some (.int .i64 t.pc)∧w.cell? ⟨g,k * 3+1,none⟩=some x.2∧w.cell? ⟨g,k * 3+2,none⟩=some (.int .i64 t.st)∧(∀ j,w.frozen? ⟨g,j,none⟩=false):=by
 have hk:k < d.ths.length:=(List.getElem?_eq_some_iff.1 ht).1
 have hl:=h.l1
 obtain ⟨x,hx⟩:∃ x,L1[k]? =some x:=⟨_,List.getElem?_eq_getElem (by omega)⟩
 obtain ⟨t',ht',e⟩:=h.at1 hx
 rw [ht] at ht'
 injection ht' with ht'
 subst ht'
 have hr:=h.t.row
 rw [hl] at hr
 obtain ⟨g,c,hv,-⟩:=World.ownsRow.form hr (by omega)
 subst hv
 have hlt:=World.ownsRow.lt hr g rfl
 obtain ⟨m0,m1,m2⟩:=flatR_at _ _ _ hx
 refine ⟨g,c,x,rfl,hx,e,hlt.1,hlt.2,?_,?_,?_,fun j=>World.ownsRow.frozenAt hr j⟩
 ·rw [World.ownsRow.cellAt hr _ (by omega),m0,e];rfl
 ·rw [World.ownsRow.cellAt hr _ (by omega),m1]
 ·rw [World.ownsRow.cellAt hr _ (by omega),m2,e];rfl
theorem OwnS.chanAt {w:World} {base:Nat} {v1 v2 v3:Value} {L1 L2:List (Rec×Value)} {d:SD} (h:OwnS w base v1 v2 v3 L1 L2 d) {k:Nat} {t:CD} (ht:d.chs[k]? =some t):∃ (g c:Nat) (x:Rec×Value),v2=.slice (some ⟨g,0,none⟩) d.chs.length c∧L2[k]? =some x∧x.1=t.rec3∧base≤g∧g < w.heap.size∧w.cell? ⟨g,k * 3,none⟩=some (.int .i64 t.cap)∧w.cell? ⟨g,k * 3+1,none⟩=some x.2∧w.cell? ⟨g,k * 3+2,none⟩=some (.bool t.cl)∧(∀ j,w.frozen? ⟨g,j,none⟩=false):=by
 have hk:k < d.chs.length:=(List.getElem?_eq_some_iff.1 ht).1
 have hl:=h.l2
 obtain ⟨x,hx⟩:∃ x,L2[k]? =some x:=⟨_,List.getElem?_eq_getElem (by omega)⟩
 obtain ⟨t',ht',e⟩:=h.at2 hx
 rw [ht] at ht'
 injection ht' with ht'
 subst ht'
 have hr:=h.c.row
 rw [hl] at hr
 obtain ⟨g,c,hv,-⟩:=World.ownsRow.form hr (by omega)
 subst hv
 have hlt:=World.ownsRow.lt hr g rfl
 obtain ⟨m0,m1,m2⟩:=flatR_at _ _ _ hx
 refine ⟨g,c,x,rfl,hx,e,hlt.1,hlt.2,?_,?_,?_,fun j=>World.ownsRow.frozenAt hr j⟩
 ·rw [World.ownsRow.cellAt hr _ (by omega),m0,e];rfl
 ·rw [World.ownsRow.cellAt hr _ (by omega),m1]
 ·rw [World.ownsRow.cellAt hr _ (by omega),m2,e];rfl
/- where a thread's registers lie -/
theorem OwnS.regs {w:World} {base:Nat} {v1 v2 v3:Value} {L1 L2:List (Rec×Value)} {d:SD} (h:OwnS w base v1 v2 v3 L1 L2 d) {k:Nat} {t:TD} {x:Rec×Value} (hx:L1[k]? =some x) (e:x.1=t.rec3) (h4:t.regs.length=4):∃ (g c:Nat),x.2=.slice (some ⟨g,0,none⟩) 4 c∧base≤g∧g < w.heap.size∧(∀ i,i < 4→w.cell? ⟨g,i,none⟩=some (.int .i64 (t.regs.getD i 0)))∧(∀ j,w.frozen? ⟨g,j,none⟩=false):=by
 have ho:OwnN w base x.2 t.regs:=by have h0:=h.t.inn k x hx;rw [e] at h0;exact h0
 have hr:w.ownsRow base 3 1 x.2 4 (t.regs.map (Value.int .i64)):=by have h0:=ho;unfold OwnN at h0;rw [h4] at h0;exact h0
 obtain ⟨g,c,hv,-⟩:=World.ownsRow.form hr (by omega)
 rw [hv] at hr
 have hlt:=World.ownsRow.lt hr g rfl
 refine ⟨g,c,hv,hlt.1,hlt.2,fun i hi=>?_,fun j=>World.ownsRow.frozenAt hr j⟩
 rw [World.ownsRow.cellAt hr i (by omega),List.getElem?_map,List.getD_eq_getElem?_getD,List.getElem?_eq_getElem (by omega)]
 rfl
/- a store into a thread's place, or its state -/
theorem OwnS.setT {w : World} {base g c : Nat} {v2 v3 : Value} {L1 L2 : List (Rec × Value)} {d : SD} (h : OwnS w base (.slice (some ⟨g, 0, none⟩) d.ths.length c) v2 v3 L1 L2 d) {k : Nat} {t : TD} (ht : d.ths[k]? = some t) (z : Int) :
  (∃ L1',OwnS (w.setCell ⟨g,k * 3,none⟩ (.int .i64 z)) base (.slice (some ⟨g,0,none⟩) d.ths.length c) v2 v3 L1' L2 ⟨d.ths.set k ⟨z,t.regs,t.st⟩,d.chs,d.tr⟩∧∀ b,HitQ (.slice (some ⟨g,0,none⟩) d.ths.length c) L1' b→HitQ (.slice (some ⟨g,0,none⟩) d.ths.length c) L1 b)∧(∃ L1',OwnS (w.setCell ⟨g,k * 3+2,none⟩ (.int .i64 z)) base (.slice (some ⟨g,0,none⟩) d.ths.length c) v2 v3 L1' L2 ⟨d.ths.set k ⟨t.pc,t.regs,z⟩,d.chs,d.tr⟩∧∀ b,HitQ (.slice (some ⟨g,0,none⟩) d.ths.length c) L1' b→HitQ (.slice (some ⟨g,0,none⟩) d.ths.length c) L1 b):=by
 obtain ⟨g',c',x,hv,hx,e,-⟩:=h.thread ht
 have hl:=h.l1
 have hr:=h.t.row
 rw [hl] at hr
 have hne:∀ {e':TypeId} {size n:Nat} {v:Value} {xs:List Value} (j:Nat) (u:Value),w.ownsRow base e' size v n xs→e'≠49→∀ b,v.ownBlock=some b→(w.setCell ⟨g,j,none⟩ u).heap[b]? =w.heap[b]? :=fun j u hv hne b hb=>Below.heap_setCell _ _ _ b (fun eb=>ownType' hv hr hne hb (by rw [eb];rfl))
 have far:∀ (j:Nat) (u:Value),OwnQ (w.setCell ⟨g,j,none⟩ u) base 65 v2 L2∧OwnD (w.setCell ⟨g,j,none⟩ u) base v3 d.tr:=fun j u=>⟨h.c.keepB (hne j u h.c.row (by decide)) (fun i y hy=>hne j u (h.c.inn i y hy) (by decide)),ownKeep' h.n (hne j u h.n (by decide))⟩
 have sp:∀ (y:Rec×Value),y.2=x.2→∀ (i j:Nat) (p q:Rec×Value) (b:Nat),(L1.set k y)[i]? =some p→L2[j]? =some q→p.2.ownBlock=some b→q.2.ownBlock≠some b:=fun y hy i j p q b hp hq=>by
  rcases set_at hp with ⟨rfl,rfl,-⟩ | ⟨-,hp⟩
  ·rw [hy];exact h.sep _ j x q b hx hq
  ·exact h.sep i j p q b hp hq
 have sq:∀ (y:Rec×Value),y.2=x.2→∀ (i:Nat) (z:Rec×Value) (b:Nat),i≠k→L1[i]? =some z→y.2.ownBlock=some b→z.2.ownBlock≠some b:=fun y hy i z b hi hz=>by rw [hy];exact h.t.sep k i x z b hx hz (Ne.symm hi)
 have hxo:=h.t.inn k x hx
 refine ⟨⟨L1.set k (⟨.int .i64 z,x.1.l,x.1.z⟩,x.2),⟨?_,h.e2,?_,(far _ _).1,(far _ _).2,sp _ rfl⟩,fun b hb=>hitQ_set hx hb rfl⟩,⟨L1.set k (⟨x.1.a,x.1.l,.int .i64 z⟩,x.2),⟨?_,h.e2,?_,(far _ _).1,(far _ _).2,sp _ rfl⟩,fun b hb=>hitQ_set hx hb rfl⟩⟩
 ·rw [List.map_set,List.map_set,h.e1,e];rfl
 ·have r:=(World.ownsRow.stored hr (k * 3) (.int .i64 z)).1
  rw [(flatR_set L1 k x hx _).1] at r
  have q:=OwnQ.upd (k:=k) (y:=(⟨.int .i64 z,x.1.l,x.1.z⟩,x.2)) h.t (by rw [hl];exact r) (ownKeep' hxo (hne _ _ hxo (by decide))) (fun i z' hi hz'=>hne _ _ (h.t.inn i z' hz') (by decide)) (sq _ rfl)
  exact q
 ·rw [List.map_set,List.map_set,h.e1,e];rfl
 ·have r:=(World.ownsRow.stored hr (k * 3+2) (.int .i64 z)).1
  rw [(flatR_set L1 k x hx _).2.2] at r
  have q:=OwnQ.upd (k:=k) (y:=(⟨x.1.a,x.1.l,.int .i64 z⟩,x.2)) h.t (by rw [hl];exact r) (ownKeep' hxo (hne _ _ hxo (by decide))) (fun i z' hi hz'=>hne _ _ (h.t.inn i z' hz') (by decide)) (sq _ rfl)
  exact q
/- a store into a register -/
theorem OwnS.setR {w : World} {base g c : Nat} {v1 v2 v3 : Value} {L1 L2 : List (Rec × Value)} {d : SD} (h : OwnS w base v1 v2 v3 L1 L2 d) {k : Nat} {t : TD} {x : Rec × Value} (hx : L1[k]? = some x) (ht : d.ths[k]? = some t) (hx2 : x.2 = .slice (some ⟨g, 0, none⟩) 4 c) (h4 : t.regs.length = 4) (i : Nat) (z : Int) :
  ∃ L1',L1'[k]? =some (⟨x.1.a,t.regs.set i z,x.1.z⟩,x.2)∧OwnS (w.setCell ⟨g,i,none⟩ (.int .i64 z)) base v1 v2 v3 L1' L2 ⟨d.ths.set k ⟨t.pc,t.regs.set i z,t.st⟩,d.chs,d.tr⟩∧∀ b,HitQ v1 L1' b→HitQ v1 L1 b:=by
 obtain ⟨t',ht',e⟩:=h.at1 hx
 rw [ht] at ht'
 injection ht' with ht'
 subst ht'
 have hxo:OwnN w base x.2 t.regs:=by have h0:=h.t.inn k x hx;rw [e] at h0;exact h0
 have hr:w.ownsRow base 3 1 (.slice (some ⟨g,0,none⟩) 4 c) 4 (t.regs.map (Value.int .i64)):=by have h0:=hxo;unfold OwnN at h0;rw [h4,hx2] at h0;exact h0
 have hxb:∀ b,x.2.ownBlock=some b↔b=g:=fun b=>by rw [hx2];constructor;(intro e;injection e with e;exact e.symm);(intro e;rw [e];rfl)
 have hkl:k < L1.length:=(List.getElem?_eq_some_iff.1 hx).1
 have hne:∀ {v:Value},(∀ b,v.ownBlock=some b→b≠g)→∀ b,v.ownBlock=some b→(w.setCell ⟨g,i,none⟩ (.int .i64 z)).heap[b]? =w.heap[b]? :=fun hv b hb=>Below.heap_setCell _ _ _ b (hv b hb)
 have ht1:∀ {e':TypeId} {size n:Nat} {v:Value} {xs:List Value},w.ownsRow base e' size v n xs→e'≠3→∀ b,v.ownBlock=some b→b≠g:=fun hv hn b hb eb=>ownType' hv hr hn hb (by rw [eb];rfl)
 have ht2:∀ (j:Nat) (y:Rec×Value),j≠k→L1[j]? =some y→∀ b,y.2.ownBlock=some b→b≠g:=fun j y hj hy b hb eb=>h.t.sep j k y x b hy hx hj hb ((hxb b).2 eb)
 have ht3:∀ (j:Nat) (y:Rec×Value),L2[j]? =some y→∀ b,y.2.ownBlock=some b→b≠g:=fun j y hy b hb eb=>h.sep k j x y b hx hy ((hxb b).2 eb) hb
 refine ⟨L1.set k (⟨x.1.a,t.regs.set i z,x.1.z⟩,x.2),List.getElem?_set_self hkl,⟨?_,h.e2,?_,h.c.keepB (hne (ht1 h.c.row (by decide))) (fun j y hy=>hne (ht3 j y hy)),ownKeep' h.n (hne (ht1 h.n (by decide))),?_⟩,fun b hb=>hitQ_set hx hb rfl⟩
 ·rw [List.map_set,List.map_set,h.e1,e];rfl
 ·have r:(w.setCell ⟨g,i,none⟩ (.int .i64 z)).ownsRow base 49 3 v1 L1.length (flatR (L1.set k (⟨x.1.a,t.regs.set i z,x.1.z⟩,x.2))):=by
   have r0:=ownKeep' h.t.row (hne (ht1 h.t.row (by decide)))
   have e3:=(flatR_set L1 k x hx x.2).2.1
   have e4:(flatR L1).set (k * 3+1) x.2=flatR L1:=by
    apply List.ext_getElem?
    intro j
    by_cases ej:j=k * 3+1
    ·subst ej
     rw [List.getElem?_set_self (by rw [flatR_len];omega),(flatR_at L1 k x hx).2.1]
    ·rw [List.getElem?_set_ne (Ne.symm ej)]
   rw [e4] at e3
   have e5:∀ (L:List (Rec×Value)) (k:Nat) (a b:Rec×Value),a.1.a=b.1.a→a.1.z=b.1.z→a.2=b.2→flatR (L.set k a)=flatR (L.set k b):=by
    intro L
    induction L with
    | nil=>intros;rfl
    | cons y r ih=>
     intro k a b h1 h2 h3
     cases k with
     | zero=>show [a.1.a,a.2,a.1.z]++flatR r=[b.1.a,b.2,b.1.z]++flatR r;rw [h1,h2,h3]
     | succ k=>show [y.1.a,y.2,y.1.z]++flatR (r.set k a)=[y.1.a,y.2,y.1.z]++flatR (r.set k b);rw [ih k a b h1 h2 h3]
   rw [e3,e5 L1 k (x.1,x.2) (⟨x.1.a,t.regs.set i z,x.1.z⟩,x.2) rfl rfl rfl] at r0
   exact r0
  have hs:=(World.ownsRow.stored hr i (.int .i64 z)).1
  have q:=OwnQ.upd (k:=k) (y:=(⟨x.1.a,t.regs.set i z,x.1.z⟩,x.2)) h.t r (by
   show (w.setCell ⟨g,i,none⟩ (.int .i64 z)).ownsRow base 3 1 x.2 (t.regs.set i z).length ((t.regs.set i z).map (Value.int .i64))
   rw [hx2,List.length_set,h4,List.map_set]
   exact hs) (fun j y hj hy=>hne (ht2 j y hj hy)) (fun j y b hj hy hb=>h.t.sep k j x y b hx hy (Ne.symm hj) hb)
  exact q
 ·intro i' j p q b hp hq
  rcases set_at hp with ⟨rfl,rfl,-⟩ | ⟨-,hp⟩
  ·exact h.sep _ j x q b hx hq
  ·exact h.sep i' j p q b hp hq
/- a channel put in the place of another -/
theorem OwnS.setC {w : World} {base g c : Nat} {v1 v3 : Value} {L1 L2 : List (Rec × Value)} {d : SD} (h : OwnS w base v1 (.slice (some ⟨g, 0, none⟩) d.chs.length c) v3 L1 L2 d) {k : Nat} (hk : k < d.chs.length) (y : CD) (u : Value) (hu : OwnN w base u y.list)
  (f1:∀ (i:Nat) (x:Rec×Value) (b:Nat),L1[i]? =some x→u.ownBlock=some b→x.2.ownBlock≠some b) (f2:∀ (i:Nat) (x:Rec×Value) (b:Nat),L2[i]? =some x→u.ownBlock=some b→x.2.ownBlock≠some b):
  ∃ L2',OwnS (set3 w g (k * 3) (.int .i64 y.cap) u (.bool y.cl)) base v1 (.slice (some ⟨g,0,none⟩) d.chs.length c) v3 L1 L2' ⟨d.ths,d.chs.set k y,d.tr⟩∧∀ b,HitQ (.slice (some ⟨g,0,none⟩) d.chs.length c) L2' b→HitQ (.slice (some ⟨g,0,none⟩) d.chs.length c) L2 b∨u.ownBlock=some b:=by
 have hl:=h.l2
 obtain ⟨x,hx⟩:∃ x,L2[k]? =some x:=⟨_,List.getElem?_eq_getElem (by omega)⟩
 have hr:=h.c.row
 rw [hl] at hr
 have hne:∀ {e':TypeId} {size n:Nat} {v:Value} {xs:List Value},w.ownsRow base e' size v n xs→e'≠65→∀ b,v.ownBlock=some b→(set3 w g (k * 3) (.int .i64 y.cap) u (.bool y.cl)).heap[b]? =w.heap[b]? :=fun hv hne b hb=>set3_block (fun eb=>ownType' hv hr hne hb (by rw [eb];rfl))
 have p3:=(World.ownsRow.stored (World.ownsRow.stored (World.ownsRow.stored hr (k * 3) (.int .i64 y.cap)).1 (k * 3+1) u).1 (k * 3+2) (.bool y.cl)).1
 have hkl:k < L2.length:=by omega
 rw [(flatR_set L2 k x hx _).1,(flatR_set _ k _ (List.getElem?_set_self hkl) _).2.1,List.set_set,(flatR_set _ k _ (List.getElem?_set_self hkl) _).2.2,List.set_set] at p3
 refine ⟨L2.set k (y.rec3,u),⟨h.e1,?_,h.t.keepB (hne h.t.row (by decide)) (fun i z hz=>hne (h.t.inn i z hz) (by decide)),?_,ownKeep' h.n (hne h.n (by decide)),?_⟩,fun b hb=>hitQ_put hb⟩
 ·rw [List.map_set,List.map_set,h.e2]
 ·have e6:∀ (L:List (Rec×Value)) (k:Nat) (a b:Rec×Value),a.1.a=b.1.a→a.1.z=b.1.z→a.2=b.2→flatR (L.set k a)=flatR (L.set k b):=by
   intro L
   induction L with
   | nil=>intros;rfl
   | cons y r ih=>
    intro k a b h1 h2 h3
    cases k with
    | zero=>show [a.1.a,a.2,a.1.z]++flatR r=[b.1.a,b.2,b.1.z]++flatR r;rw [h1,h2,h3]
    | succ k=>show [y.1.a,y.2,y.1.z]++flatR (r.set k a)=[y.1.a,y.2,y.1.z]++flatR (r.set k b);rw [ih k a b h1 h2 h3]
  have e7:=e6 L2 k (⟨.int .i64 y.cap,x.1.l,.bool y.cl⟩,u) (y.rec3,u) rfl rfl rfl
  simp only at p3
  rw [e7] at p3
  have q:=OwnQ.upd (k:=k) (y:=(y.rec3,u)) h.c (by rw [hl];exact p3) (ownKeep' hu (hne hu (by decide))) (fun i z hi hz=>hne (h.c.inn i z hz) (by decide)) (fun i z b hi hz hb=>f2 i z b hz hb)
  exact q
 ·intro i j p q b hp hq hb
  rcases set_at hq with ⟨-,rfl,-⟩ | ⟨-,hq⟩
  ·exact fun hb'=>f1 i p b hp hb' hb
  ·exact h.sep i j p q b hp hq hb
/- a source whose blocks are none from lo on, below hi -/
structure OA (w:World) (base lo hi:Nat) (v1 v2 v3:Value) (L1 L2:List (Rec×Value)) (d:SD):Prop where
 o:OwnS w base v1 v2 v3 L1 L2 d
 h:∀ k,HitS v1 v2 v3 L1 L2 k→k < lo∨hi≤k
theorem OA.cell {w:World} {base lo hi:Nat} {v1 v2 v3:Value} {L1 L2:List (Rec×Value)} {d:SD} (h:OA w base lo hi v1 v2 v3 L1 L2 d) {B:Nat} (i:Nat) (v:Value) (h1:lo≤B) (h2:B < hi):OA (w.setCell ⟨B,i,none⟩ v) base lo hi v1 v2 v3 L1 L2 d:=
 ⟨h.o.keepB (fun k hk=>Below.heap_setCell _ _ _ k (by show k≠B;have:=h.h k hk;omega)),h.h⟩
theorem OA.of {w w':World} {base hi:Nat} {v1 v2 v3:Value} {L1 L2:List (Rec×Value)} {d:SD} (h:OwnS w base v1 v2 v3 L1 L2 d) (hb:Below w.heap.size w w'):OA w' base w.heap.size hi v1 v2 v3 L1 L2 d:=⟨h.keep (fun k _ hk=>hb.block k hk),fun k hk=>.inl (h.hit hk).2⟩
theorem OA.setR {w : World} {base lo hi g c : Nat} {v1 v2 v3 : Value} {L1 L2 : List (Rec × Value)} {d : SD} (h : OA w base lo hi v1 v2 v3 L1 L2 d) {k : Nat} {t : TD} {x : Rec × Value} (hx : L1[k]? = some x) (ht : d.ths[k]? = some t) (hx2 : x.2 = .slice (some ⟨g, 0, none⟩) 4 c) (h4 : t.regs.length = 4) (i : Nat) (z : Int) :
  ∃ L1' x',L1'[k]? =some x'∧x'.2=.slice (some ⟨g,0,none⟩) 4 c∧OA (w.setCell ⟨g,i,none⟩ (.int .i64 z)) base lo hi v1 v2 v3 L1' L2 ⟨d.ths.set k ⟨t.pc,t.regs.set i z,t.st⟩,d.chs,d.tr⟩:=by
 obtain ⟨L,e,o,q⟩:=h.o.setR hx ht hx2 h4 i z
 exact ⟨L,_,e,hx2,o,fun k hk=>h.h k (by rcases hk with hk | hk | hk;exact .inl (q k hk);exact .inr (.inl hk);exact .inr (.inr hk))⟩
theorem OA.setC {w : World} {base lo hi g c : Nat} {v1 v3 : Value} {L1 L2 : List (Rec × Value)} {d : SD} (h : OA w base lo hi v1 (.slice (some ⟨g, 0, none⟩) d.chs.length c) v3 L1 L2 d) {k : Nat} (hk : k < d.chs.length) (y : CD) (u : Value) (B : Nat) (hu : OwnN w B u y.list) (hB : base ≤ B) (hh : hi ≤ B) (hB2 : ∀ b, HitS v1 (.slice (some ⟨g, 0, none⟩) d.chs.length c) v3 L1 L2 b → b < B) :
  ∃ L2',OA (set3 w g (k * 3) (.int .i64 y.cap) u (.bool y.cl)) base lo hi v1 (.slice (some ⟨g,0,none⟩) d.chs.length c) v3 L1 L2' ⟨d.ths,d.chs.set k y,d.tr⟩:=by
 obtain ⟨L,o,q⟩:=h.o.setC hk y u (ownLow' hu hB) (fun i x b hx hb hb'=>by have h1:=(World.ownsRow.lt hu _ hb).1;have h2:=hB2 b (.inl (.inr ⟨i,x,hx,hb'⟩));omega) (fun i x b hx hb hb'=>by have h1:=(World.ownsRow.lt hu _ hb).1;have h2:=hB2 b (.inr (.inl (.inr ⟨i,x,hx,hb'⟩)));omega)
 refine ⟨L,o,fun k hk=>?_⟩
 rcases hk with hk | hk | hk
 ·exact h.h k (.inl hk)
 ·rcases q k hk with hk | hk
  ·exact h.h k (.inr (.inl hk))
  ·have h1:=(World.ownsRow.lt hu _ hk).1
   exact .inr (by omega)
 ·exact h.h k (.inr (.inr hk))
end
section
set_option linter.unusedSimpArgs false
set_option linter.unusedVariables false
set_option maxRecDepth 100000
open Go.RowKit
theorem l4Bit_any (b:Bool) (w:World):Calls Tryz.prog 78 #[.bool b] w fun e w'=>e=.returned (.int .i64 (bitN b))∧w'=w:=by
 cases b
 all_goals
  go_enter Tryz.func78,Tryz.ntmps78
  go_wp2
  go_ret
  exact ⟨rfl,rfl⟩
set_option maxHeartbeats 2000000 in
theorem l4Go_any (p1 p2 : Option Addr) (a1 a2 lo hi base : Nat) (p : PD) (v1 v2 v3 : Value) (L1 L2 : List (Rec × Value)) (d : SD) (k : Nat) (t : TD) (at_ : Int) (w : World) (h : ProgR w lo hi p1 p2 p) (hB : hi ≤ base) (hO : OwnS w base v1 v2 v3 L1 L2 d) (hb : base ≤ w.heap.size) (ht : d.ths[k]? = some t) (hst : t.st = 0) (hk : k < p.bods.length) (hk2 : p.bods.length ≤ 4) (hlb : (bodyOf p k).length ≤ 24) :
  Calls Tryz.prog 80 #[.agg #[.slice p1 p.caps.length a1,.slice p2 p.bods.length a2],.agg #[v1,v2,v3],.int .i64 k,.int .i64 at_] w fun e w'=>∃ L1',e=.returned (.agg #[v1,v2,v3])∧OwnS w' base v1 v2 v3 L1' L2 ⟨d.ths.set k (moveT t (bodyOf p k).length t.regs at_),d.chs,d.tr⟩∧Below base w w'∧∀ b,b < w.heap.size→v1.ownBlock≠some b→w'.heap[b]? =w.heap[b]? :=by
 obtain ⟨gb,ob,sb,cb,hp2,hgb,fb⟩:∃ gb ob sb cb,p2=some ⟨gb,ob,none⟩∧gb < w.heap.size∧w.cell? ⟨gb,ob+k,none⟩=some (.slice sb (bodyOf p k).length cb):=by
  rcases h.2 with h0 | ⟨g,o,e,a,b,c⟩
  ·rw [h0] at hk;simp at hk
  ·obtain ⟨s,c',h1,h2⟩:=c k hk
   exact ⟨g,o,s,c',e,by omega,h1⟩
 subst hp2
 obtain ⟨g1,c1,x,hv1,hx,ex,hg0,hg1,e0,e1,e2,e3⟩:=hO.thread ht
 subst hv1
 have hkl:k < d.ths.length:=(List.getElem?_eq_some_iff.1 ht).1
 have i1:gb < w.heap.size+1:=by omega
 have i2:gb < w.heap.size+1+1:=by omega
 have i3:g1 < w.heap.size+1:=by omega
 have i4:g1 < w.heap.size+1+1:=by omega
 have HO:=(show Hid _ from hO)
 have HT:=(show Hid (d.ths[k]? =some t) from ht)
 have HST:=(show Hid (t.st=0) from hst)
 have b0:(0:Int)≤(k:Int):=by omega
 have b1:(k:Int) < (p.bods.length:Int):=by omega
 have b2:(k:Int) < (d.ths.length:Int):=by omega
 obtain ⟨s2,c2,hv2⟩:=ownSl hO.c.row
 obtain ⟨s3,c3,hv3⟩:=ownSl hO.n
 subst hv2
 subst hv3
 obtain ⟨nb,hnb⟩:∃ nb,(bodyOf p k).length=nb:=⟨_,rfl⟩
 rw [hnb] at fb hlb ⊢
 clear h hO ht hst hx ex hnb
 by_cases hin:0≤at_∧at_ < nb
 ·have hin1:Plain.inB at_ 0 ((nb:Int) - 1)=true:=by unfold Plain.inB;simp;omega
  have HMV:Hid (moveT t nb t.regs at_=⟨at_,t.regs,t.st⟩):=by show _=_;unfold moveT;rw [if_pos hin,HST.out]
  go_enter Tryz.func80,Tryz.ntmps80
  go_wp2_with (go_at_call 34;refine (l1In_any _ _ _ _).mono ?_;rintro e w' ⟨rfl,hw'⟩;rw [hw',hin1];clear hw' w')
  obtain ⟨L1',o,-⟩:=(HO.out.setT HT.out at_).1
  have kk:Below base w (w.setCell ⟨g1,k * 3,none⟩ (.int .i64 at_)):=(Below.refl _ _).setCell (p:=⟨g1,k * 3,none⟩) hg0 _
  refine bodyPost_ret (v:=.agg #[.slice (some ⟨g1,0,none⟩) d.ths.length c1,.slice s2 L2.length c2,.slice s3 d.tr.length c3]) (by simp [results,Tryz.results80,go_sem]) rfl ⟨L1',rfl,?_,((kk.alloc (by simp;omega) _).alloc (by simp;omega) _).alloc (by simp;omega) _,fun b hb1 hn=>?_⟩
  rotate_left
  ·have ng:b≠g1:=fun e=>hn (by rw [e];rfl)
   rw [Below.heap_alloc _ _ _ (by simp;omega),Below.heap_alloc _ _ _ (by simp;omega),Below.heap_alloc _ _ _ (by simp;omega),Below.heap_setCell _ _ _ b ng]
  rw [HMV.out]
  exact o.keep (fun k _ hk=>by rw [Below.heap_alloc _ _ _ (by simp at hk ⊢;omega),Below.heap_alloc _ _ _ (by simp at hk ⊢;omega),Below.heap_alloc _ _ _ (by simp at hk ⊢;omega)])
 ·have hin1:Plain.inB at_ 0 ((nb:Int) - 1)=false:=by unfold Plain.inB;simp;omega
  have HMV:Hid (moveT t nb t.regs at_=⟨t.pc,t.regs,2⟩):=by show _=_;unfold moveT;rw [if_neg hin]
  go_enter Tryz.func80,Tryz.ntmps80
  go_wp2_with (go_at_call 34;refine (l1In_any _ _ _ _).mono ?_;rintro e w' ⟨rfl,hw'⟩;rw [hw',hin1];clear hw' w')
  obtain ⟨L1',o,-⟩:=(HO.out.setT HT.out 2).2
  have kk:Below base w (w.setCell ⟨g1,k * 3+2,none⟩ (.int .i64 2)):=(Below.refl _ _).setCell (p:=⟨g1,k * 3+2,none⟩) hg0 _
  refine bodyPost_ret (v:=.agg #[.slice (some ⟨g1,0,none⟩) d.ths.length c1,.slice s2 L2.length c2,.slice s3 d.tr.length c3]) (by simp [results,Tryz.results80,go_sem]) rfl ⟨L1',rfl,?_,((kk.alloc (by simp;omega) _).alloc (by simp;omega) _).alloc (by simp;omega) _,fun b hb1 hn=>?_⟩
  rotate_left
  ·have ng:b≠g1:=fun e=>hn (by rw [e];rfl)
   rw [Below.heap_alloc _ _ _ (by simp;omega),Below.heap_alloc _ _ _ (by simp;omega),Below.heap_alloc _ _ _ (by simp;omega),Below.heap_setCell _ _ _ b ng]
  rw [HMV.out]
  exact o.keep (fun k _ hk=>by rw [Below.heap_alloc _ _ _ (by simp at hk ⊢;omega),Below.heap_alloc _ _ _ (by simp at hk ⊢;omega),Below.heap_alloc _ _ _ (by simp at hk ⊢;omega)])
end
end Go.Proofs.YtknffngbdakblaaGreat
