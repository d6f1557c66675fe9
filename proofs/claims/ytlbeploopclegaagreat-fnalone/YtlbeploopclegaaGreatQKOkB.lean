/- Code and cores held against their rules by the program. Conditions: they are counted. The notes and the cores of a machine held against their rules by the program. Conditions: they are counted. -/
import Derived.Test.YtlbeploopclegaaGreatQG00
import Derived.Test.YtlbeploopclegaaGreatQG01
import Derived.Test.YtlbeploopclegaaGreatQG07
import Derived.Test.YtlbeploopclegaaGreatQC7Leaf
import Derived.Test.YtlbeploopclegaaGreatQG02
import Derived.Test.YtlbeploopclegaaGreatQG06
import Derived.Deep.RegionWith
namespace Go.Proofs.YtlbeploopclegaaGreat
set_option linter.unusedSimpArgs false
set_option linter.unusedVariables false
set_option maxRecDepth 100000
section
open Go.RowKit
theorem isState_any (n:Int) (w:World):Calls Tryz.prog 113 #[.int .i64 n] w fun e w'=>e=.returned (.bool (Plain.inB n 0 2))∧w'=w:=by
 by_cases h0:n=0
 ·subst h0
  go_enter Tryz.func113,Tryz.ntmps113
  go_wp2
  go_ret
  exact ⟨rfl,rfl⟩
 by_cases h1:n=1
 ·subst h1
  go_enter Tryz.func113,Tryz.ntmps113
  go_wp2
  go_ret
  exact ⟨rfl,rfl⟩
 by_cases h2:n=2
 ·subst h2
  go_enter Tryz.func113,Tryz.ntmps113
  go_wp2
  go_ret
  exact ⟨rfl,rfl⟩
 ·have e0:(n==0)=false:=by simpa using h0
  have e1:(n==1)=false:=by simpa using h1
  have e2:(n==2)=false:=by simpa using h2
  have F:Hid (Plain.inB n 0 2=false):=by show _=_;simp [Plain.inB];omega
  clear h0 h1 h2
  go_enter Tryz.func113,Tryz.ntmps113
  go_wp2
  go_ret
  exact ⟨by rw [F.out];rfl,rfl⟩
def codesB (l:List (List I5)):Bool:=decide (1≤l.length∧l.length≤4)&&l.all codeB
def coreB (m:List (List WD)) (k:KD) (n:Nat):Bool:=decide (k.regs.length=8)&&(Plain.inB k.st 0 2&&(Plain.oneB k.pc n&&viewB m k.vw))
def coresB (m:List (List WD)) (cs:List KD) (l:List (List I5)):Bool:=decide (cs.length=l.length)&&(cs.zip l).all (fun x=>coreB m x.1 x.2.length)
def trB (l:List ND) (n:Nat):Bool:=decide (l.length≤4000)&&l.all (fun t=>Plain.oneB t.who n)
theorem all_yes {α:Type} {p:α→Bool} {l:List α} (h:∀ (i:Nat) (t:α),l[i]? =some t→p t=true):l.all p=true:=by
 rw [List.all_eq_true]
 intro x hx
 obtain ⟨i,hi,e⟩:=List.getElem_of_mem hx
 exact h i x (by rw [List.getElem?_eq_getElem hi,e])
def machB (d:MD):Bool:=codesB d.codes&&(coresB d.mem d.cores d.codes&&(trB d.tr d.cores.length&&memB d.mem))
set_option maxHeartbeats 2000000 in
theorem coreOk_any (k : KD) (s1 s2 s3 s4 : Option Addr) (c1 c2 c3 c4 n lo hi lo' hi' : Nat) (m : List (List WD)) (w : World) (h : MemR w lo hi s4 m) (h' : IntsR w lo' hi' s2 k.vw) (hB : hi ≤ w.heap.size) (hB' : hi' ≤ w.heap.size) (hr : k.regs.length ≤ 2000000) (hl : k.vw.length ≤ 2000000) (hn : n ≤ 2000000) :
  Calls Tryz.prog 85 #[.agg #[.int .i64 k.pc,.slice s1 k.regs.length c1,.slice s2 k.vw.length c2,.int .i64 k.st],.slice s3 n c3,.agg #[.slice s4 m.length c4]] w fun e w'=>e=.returned (.bool (coreB m k n))∧Below w.heap.size w w':=by
 have H:Hid (MemR w lo hi s4 m):=h
 have H':Hid (IntsR w lo' hi' s2 k.vw):=h'
 clear h h'
 by_cases h8:k.regs.length=8
 ·have e8:((k.regs.length:Int)==8)=true:=by simp;omega
  have E:Hid (coreB m k n=(Plain.inB k.st 0 2&&(Plain.oneB k.pc n&&viewB m k.vw))):=by show _=_;unfold coreB;rw [decide_eq_true h8];rfl
  clear h8
  cases hs:Plain.inB k.st 0 2
  ·have HS:Hid (Plain.inB k.st 0 2=false):=hs
   clear hs
   go_enter Tryz.func85,Tryz.ntmps85
   go_wp2_with (go_at_call 113;refine (isState_any _ _).mono ?_;rintro e w' ⟨rfl,rfl⟩;rw [HS.out])
   go_ret
   exact ⟨by rw [E.out,HS.out];rfl,((Below.refl _ _).alloc (Nat.le_refl _) _).alloc (by simp) _⟩
  ·have HS:Hid (Plain.inB k.st 0 2=true):=hs
   clear hs
   cases ho:Plain.oneB k.pc n
   ·have HO:Hid (Plain.oneB k.pc n=false):=ho
    clear ho
    go_enter Tryz.func85,Tryz.ntmps85
    go_wp2_with (first | (go_at_call 113;refine (isState_any _ _).mono ?_;rintro e w' ⟨rfl,rfl⟩;rw [HS.out]) | (go_at_call 31;refine (isOneOf_any _ _ _).mono ?_;rintro e w' ⟨rfl,rfl⟩;rw [HO.out]))
    go_ret
    exact ⟨by rw [E.out,HS.out,HO.out];rfl,((Below.refl _ _).alloc (Nat.le_refl _) _).alloc (by simp) _⟩
   ·have HO:Hid (Plain.oneB k.pc n=true):=ho
    clear ho
    have k0:Below w.heap.size w ((w.alloc (.cells #[.int .i64 k.pc,.slice s1 k.regs.length c1,.slice s2 k.vw.length c2,.int .i64 k.st] 53)).alloc (.cells #[.slice s4 m.length c4] 35)):=((Below.refl _ _).alloc (Nat.le_refl _) _).alloc (by simp) _
    have V:=implViewOk_any s4 s2 c4 c2 lo hi lo' hi' m k.vw _ (H.out.keep (Keep.of_below k0 hB)) (H'.out.keep (Keep.of_below k0 hB')) (by simp;omega) (by simp;omega) hl
    have HK:Hid (Below w.heap.size w ((w.alloc (.cells #[.int .i64 k.pc,.slice s1 k.regs.length c1,.slice s2 k.vw.length c2,.int .i64 k.st] 53)).alloc (.cells #[.slice s4 m.length c4] 35))):=k0
    clear k0
    go_enter Tryz.func85,Tryz.ntmps85
    go_wp2_with (first | (go_at_call 113;refine (isState_any _ _).mono ?_;rintro e w' ⟨rfl,rfl⟩;rw [HS.out]) | (go_at_call 31;refine (isOneOf_any _ _ _).mono ?_;rintro e w' ⟨rfl,rfl⟩;rw [HO.out]) | (go_at_call 114;refine V.mono ?_;rintro e w1 ⟨rfl,hb1⟩;have HB1:=(show Hid _ from hb1);clear hb1))
    go_ret
    exact ⟨by rw [E.out,HS.out,HO.out];rfl,HK.out.trans (HB1.out.mono (by simp;omega))⟩
 ·have e8:((k.regs.length:Int)==8)=false:=by simp;omega
  have E:Hid (coreB m k n=false):=by show _=_;unfold coreB;rw [decide_eq_false h8];rfl
  clear h8
  go_enter Tryz.func85,Tryz.ntmps85
  go_wp2
  go_ret
  exact ⟨by rw [E.out];rfl,((Below.refl _ _).alloc (Nat.le_refl _) _).alloc (by simp) _⟩
set_option maxHeartbeats 1000000 in
theorem codesOk_any (s : Option Addr) (c lo hi : Nat) (l : List (List I5)) (w : World) (h : CsR w lo hi s l) (hB : hi ≤ w.heap.size) (hl : l.length + szC l ≤ 1048576) :
  Calls Tryz.prog 52 #[.slice s l.length c] w fun e w'=>e=.returned (.bool (codesB l))∧Below w.heap.size w w':=by
 have H:Hid (CsR w lo hi s l):=h
 have HV:Hid (∀ (i:Nat) (x:List I5),l[i]? =some x→x.length≤1048576):=fun i x hx=>by have:=szC_at l i x hx;omega
 clear h
 by_cases h1:(l.length:Int) < 1
 ·have HR:Hid (codesB l=false):=by show codesB l=false;unfold codesB;rw [decide_eq_false (by omega)];rfl
  go_enter Tryz.func52,Tryz.ntmps52
  go_wp2
  go_ret
  exact ⟨ret_bool' HR.out.symm,Below.refl _ _⟩
 by_cases h2:(l.length:Int) > 4
 ·have HR:Hid (codesB l=false):=by show codesB l=false;unfold codesB;rw [decide_eq_false (by omega)];rfl
  go_enter Tryz.func52,Tryz.ntmps52
  go_wp2
  go_ret
  exact ⟨ret_bool' HR.out.symm,Below.refl _ _⟩
 have HR:Hid (codesB l=l.all codeB):=by show codesB l=_;unfold codesB;rw [decide_eq_true (by omega)];rfl
 go_enter Tryz.func52,Tryz.ntmps52
 go_wp2
 go_loopw [15] (fun i wr=>∃ k:Nat,k≤l.length∧i=.int .i64 k∧Hid ((l.take k).all codeB=true)∧Below w.heap.size w wr) (fun i _=>l.length - (intOf i).toNat)
 case atStart=>exact ⟨0,Nat.zero_le _,rfl,show _=_ by simp,Below.refl _ _⟩
 case round=>
  obtain ⟨k,hk,rfl,HJ,hbw⟩:=hrel
  have HBW:Hid (Below w.heap.size w wr):=hbw
  have z1:=hbw.size
  clear hbw
  by_cases hlt:k < l.length
  ·obtain ⟨x,hx⟩:∃ x,l[k]? =some x:=⟨_,List.getElem?_eq_getElem hlt⟩
   obtain ⟨g,o,s1,c1,e1,q1,q2,q3,q5⟩:=(H.out.keep (Keep.of_below HBW.out hB)).at hx
   subst e1
   have hv:=HV.out k x hx
   have HI:Hid (InsB wr wr.heap.size s1 x):=q5.insB.mono (by omega)
   have HT:Hid ((l.take (k+1)).all codeB=((l.take k).all codeB&&codeB x)):=all_take hx
   have HF:Hid (codeB x=false→l.all codeB=false):=fun h=>all_no hx h
   clear q5 hx
   have b0:(0:Int)≤(k:Int):=by omega
   have b1:(k:Int) < (l.length:Int):=by omega
   go_wp2_with fail
   refine (implCode_any s1 c1 wr.heap.size x wr HI.out (Nat.le_refl _) hv).mono ?_
   rintro e w2 ⟨rfl,hb2⟩
   have HB2:Hid (Below w.heap.size w w2):=HBW.out.trans (hb2.mono z1)
   clear hb2
   generalize codeB x=b at HT HF
   cases b
   ·go_wp2
    go_ret
    exact ⟨ret_bool' (HR.out.trans (by first | exact HF.out rfl | exact HF.out trivial)).symm,HB2.out⟩
   ·go_wp2
    go_roundw
    case rel=>exact ⟨k+1,by omega,by go_num,show _=_ by rw [HT.out,HJ.out];rfl,HB2.out⟩
    case measure=>simp [intOf];omega
  ·go_wp2
   go_ret
   have:k=l.length:=by omega
   subst this
   have hj:=HJ.out
   rw [List.take_length] at hj
   exact ⟨ret_bool' (by rw [HR.out,hj]),HBW.out⟩
end
section
open Go.RowKit
set_option maxRecDepth 100000 in
set_option maxHeartbeats 2000000 in
theorem traceOk_any (s : Option Addr) (c lo hi n : Nat) (l : List ND) (w : World) (h : NtsR w lo hi s l) (hB : hi ≤ w.heap.size) (hl : l.length ≤ 2000000) (hn : n ≤ 1048576) :
  Calls Tryz.prog 54 #[.slice s l.length c,.int .i64 n] w fun e w'=>e=.returned (.bool (trB l n))∧Below w.heap.size w w':=by
 have H1:Hid (NtsR w lo hi s l):=h
 clear h
 by_cases hn:l.length≤4000
 ·have hne:¬ (4000:Int) < (l.length:Int):=by omega
  have E:Hid (trB l n=l.all (fun t=>Plain.oneB t.who n)):=by show _=_;unfold trB;rw [decide_eq_true hn];rfl
  go_enter Tryz.func54,Tryz.ntmps54
  go_wp2
  go_loopw [12] (fun i wr=>∃ k:Nat,k≤l.length∧i=.int .i64 k∧Below w.heap.size w wr∧(∀ (i:Nat) (t:ND),i < k→l[i]? =some t→Plain.oneB t.who n=true)) (fun i _=>l.length - (intOf i).toNat)
  case atStart=>exact ⟨0,Nat.zero_le _,rfl,Below.refl _ _,fun i t hi=>absurd hi (Nat.not_lt_zero _)⟩
  case round=>
   obtain ⟨k,hk,rfl,hb,hd⟩:=hrel
   have HB:Hid (Below w.heap.size w wr):=hb
   have HD:Hid (∀ (i:Nat) (t:ND),i < k→l[i]? =some t→Plain.oneB t.who n=true):=hd
   have hsz:=hb.size
   clear hb hd
   by_cases hlt:k < l.length
   ·obtain ⟨t,ht⟩:∃ t,l[k]? =some t:=⟨_,List.getElem?_eq_getElem hlt⟩
    obtain ⟨g,off,hs,hg,f0,f1⟩:∃ g off,s=some ⟨g,off,none⟩∧g < w.heap.size∧NtR wr g (off+k * 2) t:=by
     rcases H1.out with h | ⟨g,off,a,b,d,e⟩
     ·rw [h] at hlt;simp at hlt
     ·exact ⟨g,off,a,by omega,(HB.out.cell (p:=⟨g,_,none⟩) (by show g < _;omega)).trans (e k t ht).1,(HB.out.cell (p:=⟨g,_,none⟩) (by show g < _;omega)).trans (e k t ht).2⟩
    subst hs
    have HT:Hid (l[k]? =some t):=ht
    obtain ⟨ta,tb⟩:=t
    simp only at f0 f1
    clear ht
    have b0:(0:Int)≤(k:Int):=by omega
    have b1:(k:Int) < (l.length:Int):=by omega
    cases hv:Plain.oneB ta n
    ·have F:Hid (trB l n=false):=by show _=_;rw [E.out];exact all_no HT.out hv
     have HV:Hid (Plain.oneB ta n=false):=hv
     clear hv
     go_wp2_with (go_at_call 31;refine (isOneOf_any _ _ _).mono ?_;rintro e w' ⟨rfl,hw⟩;have hw':=hw.symm;clear hw;subst hw';rw [HV.out])
     go_ret
     exact ⟨by rw [F.out];rfl,HB.out.trans (((Below.refl _ _).alloc (Nat.le_refl _) _).mono hsz)⟩
    ·have HV:Hid (Plain.oneB ta n=true):=hv
     clear hv
     go_wp2_with (go_at_call 31;refine (isOneOf_any _ _ _).mono ?_;rintro e w' ⟨rfl,hw⟩;have hw':=hw.symm;clear hw;subst hw';rw [HV.out])
     go_roundw
     case rel=>
      refine ⟨k+1,by omega,by go_num,HB.out.trans (((Below.refl _ _).alloc (Nat.le_refl _) _).mono hsz),fun i t hi ht=>?_⟩
      by_cases e:i=k
      ·subst e
       rw [HT.out] at ht
       injection ht with ht
       subst ht
       exact HV.out
      ·exact HD.out i t (by omega) ht
     case measure=>simp [intOf];omega
   ·go_wp2
    go_ret
    exact ⟨by rw [E.out,all_yes (fun i t ht=>HD.out i t (by have:=(List.getElem?_eq_some_iff.1 ht).1;omega) ht)];rfl,HB.out⟩
 ·have hne:(4000:Int) < (l.length:Int):=by omega
  have E:Hid (trB l n=false):=by show _=_;unfold trB;rw [decide_eq_false hn];rfl
  clear hn
  go_enter Tryz.func54,Tryz.ntmps54
  go_wp2
  go_ret
  exact ⟨by rw [E.out];rfl,Below.refl _ _⟩
set_option maxHeartbeats 2000000 in
theorem coresOk_any (s1 s2 s3 : Option Addr) (c1 c2 c3 lo hi : Nat) (cs : List KD) (l : List (List I5)) (m : List (List WD)) (w : World) (h : KsR w lo hi s1 cs) (h2 : CsR w lo hi s2 l) (h3 : MemR w lo hi s3 m) (hB : hi ≤ w.heap.size) (hl : cs.length + szK cs ≤ 1048576) (hl2 : l.length + szC l ≤ 1048576) :
  Calls Tryz.prog 53 #[.slice s1 cs.length c1,.slice s2 l.length c2,.agg #[.slice s3 m.length c3]] w fun e w'=>e=.returned (.bool (coresB m cs l))∧Below w.heap.size w w':=by
 have H:Hid (KsR w lo hi s1 cs):=h
 have H2:Hid (CsR w lo hi s2 l):=h2
 have H3:Hid (MemR w lo hi s3 m):=h3
 have HV:Hid (∀ (i:Nat) (x:KD),cs[i]? =some x→x.regs.length+x.vw.length≤1048576):=fun i x hx=>by have:=szK_at cs i x hx;omega
 have HC:Hid (∀ (i:Nat) (x:List I5),l[i]? =some x→x.length≤1048576):=fun i x hx=>by have:=szC_at l i x hx;omega
 clear h h2 h3
 by_cases hn:cs.length=l.length
 ·have hne:((cs.length:Int) !=(l.length:Int))=false:=by simp;omega
  have HN:Hid (cs.length=l.length):=hn
  have HR:Hid (coresB m cs l=(cs.zip l).all (fun x=>coreB m x.1 x.2.length)):=by show _=_;unfold coresB;rw [decide_eq_true hn];rfl
  clear hn
  go_enter Tryz.func53,Tryz.ntmps53
  go_wp2
  obtain ⟨W,hW,bx,kb,zb⟩:=Bo1.new w (.slice s3 m.length c3) 35
  rw [hW]
  clear hW
  have c0:=bx.c0
  have HKB:Hid (Below w.heap.size w W):=kb
  have z0:w.heap.size < W.heap.size:=by omega
  have z9:hi≤W.heap.size:=by omega
  have HW:Hid (KsR W lo hi s1 cs):=H.out.keep (Keep.of_below kb hB)
  have HW2:Hid (CsR W lo hi s2 l):=H2.out.keep (Keep.of_below kb hB)
  have HW3:Hid (MemR W lo hi s3 m):=H3.out.keep (Keep.of_below kb hB)
  clear bx kb zb
  go_loopw [16] (fun i wr=>∃ k:Nat,k≤cs.length∧i=.int .i64 k∧Hid (((cs.zip l).take k).all (fun x=>coreB m x.1 x.2.length)=true)∧Below W.heap.size W wr) (fun i _=>cs.length - (intOf i).toNat)
  case atStart=>exact ⟨0,Nat.zero_le _,rfl,show _=_ by simp,Below.refl _ _⟩
  case round=>
   obtain ⟨k,hk,rfl,HJ,hbw⟩:=hrel
   have HBW:Hid (Below W.heap.size W wr):=hbw
   have d0:=(hbw.cell (p:=⟨w.heap.size,0,none⟩) z0).trans c0
   have z1:=hbw.size
   have z2:w.heap.size < wr.heap.size:=by omega
   clear hbw
   by_cases hlt:k < cs.length
   ·obtain ⟨x,hx⟩:∃ x,cs[k]? =some x:=⟨_,List.getElem?_eq_getElem hlt⟩
    obtain ⟨y,hy⟩:∃ y,l[k]? =some y:=⟨_,List.getElem?_eq_getElem (by have:=HN.out;omega)⟩
    obtain ⟨g,o,t1,e1,t2,e2,es,q1,q2,f0,f1,f2,f3,q5,q6⟩:=(HW.out.keep (Keep.of_below HBW.out z9)).at hx
    obtain ⟨g',o',t3,e3,es',q1',q2',p0,-⟩:=(HW2.out.keep (Keep.of_below HBW.out z9)).at hy
    subst es es'
    have hv:=HV.out k x hx
    have hc:=HC.out k y hy
    have HI:Hid (IntsR wr lo hi t2 x.vw):=q6
    have HM:Hid (MemR wr lo hi s3 m):=HW3.out.keep (Keep.of_below HBW.out z9)
    have hz:(cs.zip l)[k]? =some (x,y):=by rw [List.getElem?_zip_eq_some];exact ⟨hx,hy⟩
    have HT:Hid (((cs.zip l).take (k+1)).all (fun x=>coreB m x.1 x.2.length)=(((cs.zip l).take k).all (fun x=>coreB m x.1 x.2.length)&&coreB m x y.length)):=all_take (p:=fun (x:KD×List I5)=>coreB m x.1 x.2.length) hz
    have HF:Hid (coreB m x y.length=false→(cs.zip l).all (fun x=>coreB m x.1 x.2.length)=false):=fun h=>all_no (p:=fun (x:KD×List I5)=>coreB m x.1 x.2.length) hz h
    generalize hyn:y.length=n at HT HF p0 hc
    clear q5 q6 hx hy hz hyn
    have b0:(0:Int)≤(k:Int):=by omega
    have b1:(k:Int) < (cs.length:Int):=by omega
    have b2:(k:Int) < (l.length:Int):=by have:=HN.out;omega
    have zg:g < wr.heap.size:=by omega
    have zg':g' < wr.heap.size:=by omega
    go_wp2_with fail
    have k2:Below wr.heap.size wr (wr.alloc (.cells #[.int .i64 x.pc,.slice t1 x.regs.length e1,.slice t2 x.vw.length e2,.int .i64 x.st] 53)):=(Below.refl _ _).alloc (Nat.le_refl _) _
    have A1:Hid (MemR (wr.alloc (.cells #[.int .i64 x.pc,.slice t1 x.regs.length e1,.slice t2 x.vw.length e2,.int .i64 x.st] 53)) lo hi s3 m):=HM.out.keep (Keep.of_below k2 (by omega))
    have A2:Hid (IntsR (wr.alloc (.cells #[.int .i64 x.pc,.slice t1 x.regs.length e1,.slice t2 x.vw.length e2,.int .i64 x.st] 53)) lo hi t2 x.vw):=HI.out.keep (Keep.of_below k2 (by omega))
    have K2:Hid (Below wr.heap.size wr (wr.alloc (.cells #[.int .i64 x.pc,.slice t1 x.regs.length e1,.slice t2 x.vw.length e2,.int .i64 x.st] 53))):=k2
    clear k2
    first | go_region_with (go_at_call 85;refine (coreOk_any x t1 t2 t3 s3 e1 e2 e3 c3 n lo hi lo hi m _ ?_ ?_ ?_ ?_ (by omega) (by omega) (by omega)).mono ?_;(exact A1.out);(exact A2.out);(first | omega | (simp;omega));(first | omega | (simp;omega));rintro e w2 ⟨rfl,hb2⟩) | fail
    all_goals
     have hb3:Below (wr.alloc (.cells #[.int .i64 x.pc,.slice t1 x.regs.length e1,.slice t2 x.vw.length e2,.int .i64 x.st] 53)).heap.size (wr.alloc (.cells #[.int .i64 x.pc,.slice t1 x.regs.length e1,.slice t2 x.vw.length e2,.int .i64 x.st] 53)) w2:=⟨hb2.os,hb2.tape,hb2.output,hb2.size,hb2.block⟩
     have HB2:Hid (Below W.heap.size W w2):=(HBW.out.trans (K2.out.mono z1)).trans (hb3.mono (by simp;omega))
     clear hb2 hb3
     generalize coreB m x n=b at HT HF
     cases b
     ·go_wp2
      go_ret
      exact ⟨ret_bool' (HR.out.trans (by first | exact HF.out rfl | exact HF.out trivial)).symm,HKB.out.trans (HB2.out.mono (by omega))⟩
     ·go_wp2
      go_roundw
      case rel=>exact ⟨k+1,by omega,by go_num,show _=_ by rw [HT.out,HJ.out];rfl,HB2.out⟩
      case measure=>simp [intOf];omega
   ·go_wp2
    go_ret
    have:k=cs.length:=by omega
    subst this
    have hj:=HJ.out
    rw [List.take_of_length_le (by simp;omega)] at hj
    exact ⟨ret_bool' (by rw [HR.out,hj]),HKB.out.trans (HBW.out.mono (by omega))⟩
 ·have hne:((cs.length:Int) !=(l.length:Int))=true:=by simp;omega
  have HR:Hid (coresB m cs l=false):=by show _=_;unfold coresB;rw [decide_eq_false hn];rfl
  go_enter Tryz.func53,Tryz.ntmps53
  go_wp2
  go_ret
  exact ⟨ret_bool' HR.out.symm,(Below.refl _ _).alloc (Nat.le_refl _) _⟩
end
end Go.Proofs.YtlbeploopclegaaGreat
