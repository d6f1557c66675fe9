/- Runs of machines: what a row of picks does; a machine in its box with a row of codes beside it. No condition. New cores put behind a row of them, and new machines. Conditions: fewer than 2^30 of them. CodeOk of the specification, at every list of at most 1048576 steps. -/
import Derived.Test.YtlbeploopclegaaGreatQG00
import Derived.Test.YtlbeploopclegaaGreatQG01
import Derived.Test.YtlbeploopclegaaGreatQG02
import Derived.Test.YtlbeploopclegaaGreatQG10
import Derived.Test.YtlbeploopclegaaGreatQKOkB
import Derived.Test.YtlbeploopclegaaGreatQG04
import Derived.Test.YtlbeploopclegaaGreatQG18
import Derived.Test.YtlbeploopclegaaGreatQG13
import Derived.Test.YtlbeploopclegaaGreatQG06
import Derived.Test.YtlbeploopclegaaGreatQG07
import Derived.Test.YtlbeploopclegaaGreatQC7SpA
import Derived.Test.YtlbeploopclegaaGreatQC7Leaf
namespace Go.Proofs.YtlbeploopclegaaGreat
section
set_option linter.unusedSimpArgs false
set_option linter.unusedVariables false
set_option maxRecDepth 100000
open Go.RowKit
noncomputable def rnM:MD→List ND→MD
 | d,[]=>d
 | d,x::r=>rnM (stepM d x.who x.v).1 r
noncomputable def rnC:MD→List ND→List Int
 | _,[]=>[]
 | d,x::r=>(stepM d x.who x.v).2::rnC (stepM d x.who x.v).1 r
theorem rnM_app:∀ (l m:List ND) (d:MD),rnM d (l++m)=rnM (rnM d l) m
 | [],_,_=>rfl
 | x::r,m,d=>rnM_app r m (stepM d x.who x.v).1
theorem rnC_app:∀ (l m:List ND) (d:MD),rnC d (l++m)=rnC d l++rnC (rnM d l) m
 | [],_,_=>rfl
 | x::r,m,d=>by
  show _::rnC _ (r++m)=_
  rw [rnC_app r m]
  rfl
theorem rnC_len:∀ (l:List ND) (d:MD),(rnC d l).length=l.length
 | [],_=>rfl
 | x::r,d=>by
  show (rnC _ r).length+1=_
  rw [rnC_len r]
  rfl
theorem rnM_ok:∀ (l:List ND) {d:MD},machB d=true→machB (rnM d l)=true
 | [],_,h=>h
 | x::r,_,h=>rnM_ok r (stepM_ok x.who x.v h)
noncomputable def runMb (d:MD) (l:List ND):MD:=if l.length≤4000∧machB d=true then rnM d l else d
noncomputable def runMc (d:MD) (l:List ND):List Int:=if l.length≤4000∧machB d=true then rnC d l else []
theorem intNM:(3:TypeId)≠38:=by decide
theorem NtsR.pk {w wr:World} {lo hi:Nat} {s:Option Addr} {l:List ND} (h:NtsR w lo hi s l) (hB:hi≤w.heap.size) (hb:Below w.heap.size w wr) {k:Nat} {x:ND} (hk:l[k]? =some x):∃ g o,s=some ⟨g,o,none⟩∧g < w.heap.size∧wr.cell? ⟨g,o+k * 2,none⟩=some (.int .i64 x.who)∧wr.cell? ⟨g,o+k * 2+1,none⟩=some (.int .i64 x.v):=by
 rcases h with h | ⟨g,o,hs,h1,h2,hc⟩
 ·subst h;simp at hk
 ·have cc:∀ j,wr.cell? ⟨g,j,none⟩=w.cell? ⟨g,j,none⟩:=fun j=>hb.cell (p:=⟨g,j,none⟩) (by show g < _;omega)
  exact ⟨g,o,hs,by omega,(cc _).trans (hc k x hk).1,(cc _).trans (hc k x hk).2⟩
theorem rn_take {d:MD} {l:List ND} {k:Nat} {x:ND} (hk:l[k]? =some x):rnM d (l.take (k+1))=(stepM (rnM d (l.take k)) x.who x.v).1∧rnC d (l.take (k+1))=rnC d (l.take k)++[(stepM (rnM d (l.take k)) x.who x.v).2]:=by
 rw [List.take_add_one,hk,Option.toList_some,rnM_app,rnC_app]
 exact ⟨rfl,rfl⟩
theorem hidN {p:Prop} (h:p):Hid p:=h
/- the argument's box and the answer's -/
structure Bc2 (V:World) (z:Nat) (m0 m1 m2 m3:Value):Prop where
 m0:V.cell? ⟨z,0,none⟩=some m0
 m1:V.cell? ⟨z,1,none⟩=some m1
 m2:V.cell? ⟨z,2,none⟩=some m2
 m3:V.cell? ⟨z,3,none⟩=some m3
 a0:V.cell? ⟨z+1,0,none⟩=some (.slice none 0 0)
 a1:V.cell? ⟨z+1,1,none⟩=some (.slice none 0 0)
 a2:V.cell? ⟨z+1,2,none⟩=some (.slice none 0 0)
 a3:V.cell? ⟨z+1,3,none⟩=some (.slice none 0 0)
 fa:∀ j,V.frozen? ⟨z+1,j,none⟩=false
 z:z+1 < V.heap.size
theorem Bc2.below {V V':World} {z:Nat} {m0 m1 m2 m3:Value} (h:Bc2 V z m0 m1 m2 m3) {n:Nat} (hb:Below n V V') (hn:z+1 < n):Bc2 V' z m0 m1 m2 m3:=by
 have c:∀ j,V'.cell? ⟨z,j,none⟩=V.cell? ⟨z,j,none⟩:=fun j=>hb.cell (p:=⟨z,j,none⟩) (by show z < n;omega)
 have c':∀ j,V'.cell? ⟨z+1,j,none⟩=V.cell? ⟨z+1,j,none⟩:=fun j=>hb.cell (p:=⟨z+1,j,none⟩) hn
 exact ⟨(c 0).trans h.m0,(c 1).trans h.m1,(c 2).trans h.m2,(c 3).trans h.m3,(c' 0).trans h.a0,(c' 1).trans h.a1,(c' 2).trans h.a2,(c' 3).trans h.a3,fun j=>(hb.frozen (p:=⟨z+1,j,none⟩) hn).trans (h.fa j),by have:=h.z;have:=hb.size;omega⟩
theorem bc2_new {w W:World} {m0 m1 m2 m3:Value} {T0 T2:TypeId} (hW:(w.alloc (.cells #[m0,m1,m2,m3] T0)).alloc (.cells #[.slice none 0 0,.slice none 0 0,.slice none 0 0,.slice none 0 0] T2)=W):Bc2 W w.heap.size m0 m1 m2 m3∧Below w.heap.size w W:=by
 subst hW
 exact ⟨⟨by simp [go_sem],by simp [go_sem],by simp [go_sem],by simp [go_sem],by simp [go_sem],by simp [go_sem],by simp [go_sem],by simp [go_sem],fun j=>by simp [go_sem],by simp⟩,((Below.refl _ _).alloc (Nat.le_refl _) _).alloc (by simp) _⟩
/- the answer put into its box -/
theorem Bc2.put {V:World} {z:Nat} {m0 m1 m2 m3 a b c d:Value} (h:Bc2 V z m0 m1 m2 m3):∃ Z,(((V.setCell ⟨z+1,0,none⟩ a).setCell ⟨z+1,1,none⟩ b).setCell ⟨z+1,2,none⟩ c).setCell ⟨z+1,3,none⟩ d=Z∧Z.cell? ⟨z+1,0,none⟩=some a∧Z.cell? ⟨z+1,1,none⟩=some b∧Z.cell? ⟨z+1,2,none⟩=some c∧Z.cell? ⟨z+1,3,none⟩=some d∧(∀ q,q≠z+1→Z.heap[q]? =V.heap[q]?)∧Z.heap.size=V.heap.size∧∀ (B:Nat) (A:World),Below B A V→B≤z+1→Below B A Z:=by
 refine ⟨_,rfl,?_,?_,?_,?_,fun q hq=>?_,?_,fun B A hb hz=>?_⟩
 ·simp [go_sem,h.a0,h.a1,h.a2,h.a3]
 ·simp [go_sem,h.a0,h.a1,h.a2,h.a3]
 ·simp [go_sem,h.a0,h.a1,h.a2,h.a3]
 ·simp [go_sem,h.a0,h.a1,h.a2,h.a3]
 ·exact (Below.heap_setCell _ ⟨z+1,_,none⟩ _ q hq).trans ((Below.heap_setCell _ ⟨z+1,_,none⟩ _ q hq).trans ((Below.heap_setCell _ ⟨z+1,_,none⟩ _ q hq).trans (Below.heap_setCell _ ⟨z+1,_,none⟩ _ q hq)))
 ·simp
 ·exact (((hb.setCell (p:=⟨z+1,_,none⟩) hz _).setCell (p:=⟨z+1,_,none⟩) hz _).setCell (p:=⟨z+1,_,none⟩) hz _).setCell (p:=⟨z+1,_,none⟩) hz _
end
section
set_option linter.unusedSimpArgs false
set_option linter.unusedVariables false
set_option maxRecDepth 100000
open Go.RowKit
/- new cores -/
def zKD:KD:=⟨0,List.replicate 8 0,List.replicate 24 0,0⟩
theorem made0 {w:World} {base n:Nat} (hb:base≤w.heap.size) (hn:n≤1048576):OwnN (w.alloc (.cells (madeCells #[.int .i64 0] n) 3)) base (.slice (some ⟨w.heap.size,0,none⟩) n n) (List.replicate n 0):=by
 have h0:=World.ownsRow_lit (base:=base) (e:=3) (size:=1) w (madeCells #[.int .i64 0] n) n hb (by unfold maxLen;omega) (by rw [size_madeCells,Nat.mul_one])
 rw [toList_madeCells_one] at h0
 show World.ownsRow _ _ _ _ _ _ _
 rw [List.length_replicate,List.map_replicate]
 exact h0
def WA (w:World):World:=(w.alloc (.cells (madeCells #[.int .i64 0] 8) 3)).alloc (.cells (madeCells #[.int .i64 0] 24) 3)
def WB (w:World):World:=(w.alloc (.cells (madeCells #[.int .i64 0] 24) 3)).alloc (.cells (madeCells #[.int .i64 0] 8) 3)
def yA (w:World):KV:=⟨zKD,.slice (some ⟨w.heap.size,0,none⟩) 8 8,.slice (some ⟨w.heap.size+1,0,none⟩) 24 24⟩
def yB (w:World):KV:=⟨zKD,.slice (some ⟨w.heap.size+1,0,none⟩) 8 8,.slice (some ⟨w.heap.size,0,none⟩) 24 24⟩
theorem WA_below (w:World):Below w.heap.size w (WA w):=((Below.refl _ _).alloc (Nat.le_refl _) _).alloc (by simp) _
theorem WB_below (w:World):Below w.heap.size w (WB w):=((Below.refl _ _).alloc (Nat.le_refl _) _).alloc (by simp) _
theorem WA_size (w:World):(WA w).heap.size=w.heap.size+2:=by simp [WA]
theorem WB_size (w:World):(WB w).heap.size=w.heap.size+2:=by simp [WB]
theorem WA_own {w:World} {base:Nat} (hb:base≤w.heap.size):OwnN (WA w) base (yA w).r (yA w).d.regs∧OwnN (WA w) base (yA w).v (yA w).d.vw:=by
 refine ⟨ownKeep' (made0 (n:=8) hb (by omega)) (fun k hk=>Below.heap_alloc _ _ _ ?_),?_⟩
 ·have hk2:some w.heap.size=some k:=hk
  injection hk2 with hk2
  simp
  omega
 ·have h:=made0 (w:=w.alloc (.cells (madeCells #[.int .i64 0] 8) 3)) (base:=base) (n:=24) (by simp;omega) (by omega)
  rw [World.size_alloc] at h
  exact h
theorem WB_own {w:World} {base:Nat} (hb:base≤w.heap.size):OwnN (WB w) base (yB w).r (yB w).d.regs∧OwnN (WB w) base (yB w).v (yB w).d.vw:=by
 refine ⟨?_,ownKeep' (made0 (n:=24) hb (by omega)) (fun k hk=>Below.heap_alloc _ _ _ ?_)⟩
 ·have h:=made0 (w:=w.alloc (.cells (madeCells #[.int .i64 0] 24) 3)) (base:=base) (n:=8) (by simp;omega) (by omega)
  rw [World.size_alloc] at h
  exact h
 ·have hk2:some w.heap.size=some k:=hk
  injection hk2 with hk2
  simp
  omega
theorem new_sep {w:World} {base:Nat} {v:Value} {L:List KV} (h:OwnK w base v L) {y:KV} (hy:y=yA w∨y=yB w):∀ (i:Nat) (z:KV) (k:Nat),L[i]? =some z→(y.r.ownBlock=some k∨y.v.ownBlock=some k)→¬ (z.r.ownBlock=some k∨z.v.ownBlock=some k):=fun i z k hz hk hk'=>by
 have h1:w.heap.size≤k:=by
  rcases hy with rfl | rfl<;>rcases hk with hk | hk
  ·have e:some w.heap.size=some k:=hk
   injection e with e;omega
  ·have e:some (w.heap.size+1)=some k:=hk
   injection e with e;omega
  ·have e:some (w.heap.size+1)=some k:=hk
   injection e with e;omega
  ·have e:some w.heap.size=some k:=hk
   injection e with e;omega
 rcases hk' with hk' | hk'
 ·have:=(World.ownsRow.lt (h.inn i z hz).1 _ hk').2
  omega
 ·have:=(World.ownsRow.lt (h.inn i z hz).2 _ hk').2
  omega
theorem new_two {w:World} {y:KV} (hy:y=yA w∨y=yB w):∀ k,y.r.ownBlock=some k→y.v.ownBlock≠some k:=fun k hk hk'=>by
 rcases hy with rfl | rfl
 ·have e:some w.heap.size=some k:=hk
  have e':some (w.heap.size+1)=some k:=hk'
  injection e with e
  injection e' with e'
  omega
 ·have e:some (w.heap.size+1)=some k:=hk
  have e':some w.heap.size=some k:=hk'
  injection e with e
  injection e' with e'
  omega
def newMd (l:List (List I5)):MD:=⟨l,List.replicate l.length zKD,newM 24,[]⟩
def newMa (l:List (List I5)):MD:=if codesB l then newMd l else noMd
theorem view_new:viewB (newM 24) (List.replicate 24 0)=true:=by decide+kernel
theorem mem_new:memB (newM 24)=true:=by decide+kernel
theorem code_pos {x:List I5} (h:codeB x=true):1≤x.length:=by
 unfold codeB at h
 simp at h
 omega
theorem mach_new (l:List (List I5)):machB (newMd l)=codesB l:=by
 cases hc:codesB l with
 | false=>unfold machB;simp [newMd,hc]
 | true=>
  have ha:l.all codeB=true:=by unfold codesB at hc;simp at hc ⊢;exact hc.2
  have hz:coresB (newM 24) (List.replicate l.length zKD) l=true:=by
   unfold coresB
   rw [decide_eq_true (by simp)]
   simp only [Bool.true_and]
   refine all_yes (fun i t ht=>?_)
   obtain ⟨h1,h2⟩:=List.getElem?_zip_eq_some.1 ht
   have e1:t.1=zKD:=by
    rw [List.getElem?_replicate] at h1
    split at h1
    ·injection h1 with h1;exact h1.symm
    ·cases h1
   have hp:=code_pos (List.all_eq_true.1 ha t.2 (List.mem_of_getElem? h2))
   unfold coreB
   rw [e1]
   simp only [zKD,List.length_replicate]
   rw [view_new]
   simp [Plain.inB,Plain.oneB]
   omega
  have ht:trB [] (List.replicate l.length zKD).length=true:=by simp [trB]
  unfold machB
  simp only [newMd]
  rw [hc,hz,ht,mem_new]
  rfl
theorem szK_new:∀ n,szK (List.replicate n zKD)=n * 32
 | 0=>rfl
 | n+1=>by
  rw [List.replicate_succ]
  show zKD.regs.length+zKD.vw.length+szK (List.replicate n zKD)=(n+1) * 32
  rw [szK_new n]
  show 8+24+n * 32=(n+1) * 32
  omega
theorem szR_new:szR (newM 24)=600:=by decide+kernel
theorem fits_new {l:List (List I5)} (h:l.length+szC l≤1048576) (h4:l.length≤4):MaFits (newMd l):=by
 refine ⟨h,?_,?_,by simp [newMd]⟩
 ·simp only [newMd,szK_new,List.length_replicate]
  omega
 ·simp only [newMd,szR_new,newM_len]
  omega
theorem MaO.of3 {w:World} {lo hi a1 b1 a2 b2 a3 b3:Nat} {p:MP} {d:MD} (hc:GO w a1 b1 p.s1 TC p.RC (d.codes.map codeV)) (hm:MO w a2 b2 p.s3 p.S d.mem) (hk:GO w a3 b3 p.s2 TK p.RK (d.cores.map coreV)) (ht:d.tr=[]) (l1:lo≤a1) (l2:b1≤a2) (l3:b2≤a3) (l4:b3≤hi) (l5:a1≤b1:=by omega) (l6:a2≤b2:=by omega) (l7:a3≤b3:=by omega):MaO w lo hi p d:=by
 have hv:vAs (p.x4 d)=[]:=by simp [MP.x4,VS.wide,vAs,ht]
 refine ⟨hc.mono (by omega) (by omega),hk.mono (by omega) (by omega),hm.mono (by omega) (by omega),⟨by simp [MP.x4,VS.wide,ht,fl2],.inl (by simp [ht,fl2])⟩,?_⟩
 unfold MP.as
 rw [hv,List.append_nil]
 refine List.nodup_append.2 ⟨hc.d,List.nodup_append.2 ⟨hk.d,hm.d,fun a ha b hb e=>?_⟩,fun a ha b hb e=>?_⟩
 ·subst e
  have:=(hk.blk ha).1
  have:=(hm.blk hb).2
  omega
 ·subst e
  have:=(hc.blk ha).2
  rcases List.mem_append.1 hb with hb | hb
  ·have:=(hk.blk hb).1
   omega
  ·have:=(hm.blk hb).1
   omega
end
section
set_option linter.unusedSimpArgs false
set_option linter.unusedVariables false
set_option maxRecDepth 100000
open Go.RowKit
set_option maxRecDepth 100000 in
set_option maxHeartbeats 1000000 in
theorem specCode_some (g off c B : Nat) (l : List I5) (w : World) (hg : g < B) (hc : ∀ i, i < l.length → At5 w g (off + i * 5) (l.getD i z5)) (hB : B ≤ w.heap.size) (hl : l.length ≤ 1048576) :
  Calls Tryz.prog 50 #[.slice (some ⟨g,off,none⟩) l.length c] w fun e w'=>e=.returned (.bool (codeB l))∧Below w.heap.size w w':=by
 have HC:Hid (∀ i,i < l.length→At5 w g (off+i * 5) (l.getD i z5)):=hc
 clear hc
 go_enter Tryz.func50,Tryz.ntmps50
 cases h1:Plain.inB (l.length:Int) 1 800
 ·have F:Hid (codeB l=false):=code_short h1
  go_wp2_with (go_at_call 23;refine (l1In_is _ _ _ _ _ h1).mono ?_;rintro e w' ⟨rfl,rfl⟩)
  go_ret
  exact ⟨by rw [F.out];rfl,Below.refl _ _⟩
 have hlen:1≤l.length∧l.length≤800:=by simp [Plain.inB] at h1;omega
 go_wp2_with (go_at_call 23;refine (l1In_is _ _ _ _ _ h1).mono ?_;rintro e w' ⟨rfl,hw⟩;have hw':=hw.symm;clear hw;subst hw')
 clear h1
 go_loopw [4] (fun i wr=>∃ k:Nat,k≤l.length∧i=.int .i64 k∧Below w.heap.size w wr∧(∀ i,i < k→stX (l.getD i z5) l.length=true)) (fun i _=>l.length - (intOf i).toNat)
 case atStart=>exact ⟨0,Nat.zero_le _,rfl,Below.refl _ _,fun i hi=>absurd hi (Nat.not_lt_zero _)⟩
 case round=>
  obtain ⟨k,hk,rfl,hb,hd⟩:=hrel
  have HB:Hid (Below w.heap.size w wr):=hb
  have HD:Hid (∀ i,i < k→stX (l.getD i z5) l.length=true):=hd
  clear hb hd
  by_cases hlt:k < l.length
  ·obtain ⟨f0,f1,f2,f3,f4⟩:=(HC.out k hlt).keep HB.out (by omega)
   cases hv:stX (l.getD k z5) l.length
   ·have F:Hid (codeB l=false):=code_no hlt hv
    generalize l.getD k z5=x at f0 f1 f2 f3 f4 hv
    obtain ⟨xo,xr,xa,xb,xn⟩:=x
    have V:Hid (Plain.stepB xo xr xa xb xn l.length=false):=hv
    clear hv
    have b0:(0:Int)≤(k:Int):=by omega
    have b1:(k:Int) < (l.length:Int):=by omega
    go_wp2_with fail
    refine (specStepOk_any _ _ _ _ _ _ _).mono ?_
    rintro e w1 ⟨rfl,hb1⟩
    rw [V.out]
    have hs1:=HB.out.size
    go_wp2
    go_ret
    exact ⟨by rw [F.out];rfl,HB.out.trans (hb1.mono hs1)⟩
   ·have HV:Hid (stX (l.getD k z5) l.length=true):=hv
    generalize l.getD k z5=x at f0 f1 f2 f3 f4 hv
    obtain ⟨xo,xr,xa,xb,xn⟩:=x
    have V:Hid (Plain.stepB xo xr xa xb xn l.length=true):=hv
    clear hv
    have b0:(0:Int)≤(k:Int):=by omega
    have b1:(k:Int) < (l.length:Int):=by omega
    go_wp2_with fail
    refine (specStepOk_any _ _ _ _ _ _ _).mono ?_
    rintro e w1 ⟨rfl,hb1⟩
    rw [V.out]
    have hs1:=HB.out.size
    have HB1:Hid (Below wr.heap.size wr w1):=hb1
    clear hb1
    go_wp2
    go_roundw
    case rel=>
     refine ⟨k+1,by omega,by go_num,HB.out.trans (HB1.out.mono hs1),?_⟩
     intro i hi
     by_cases e:i=k
     ·subst e;exact HV.out
     ·exact HD.out i (by omega)
    case measure=>simp [intOf];omega
  ·have:k=l.length:=by omega
   subst this
   have F:Hid (codeB l=lastB l):=by
    show _=_
    rw [code_all HD.out,decide_eq_true hlen]
    simp
   obtain ⟨f0,-⟩:=(HC.out (l.length - 1) (by omega)).keep HB.out (by omega)
   generalize hx:(l.getD (l.length - 1) z5).o=x at f0
   have FX:Hid (lastB l=Plain.endB x):=by show _=_;unfold lastB;rw [hx]
   clear hx
   have b0:(1:Int)≤(l.length:Int):=by omega
   have b1:(l.length:Int) - 1 < (l.length:Int):=by omega
   by_cases x10:x=10
   ·subst x10
    go_wp2
    go_ret
    exact ⟨ret_bool (by rw [F.out,FX.out];rfl),HB.out⟩
   by_cases x12:x=12
   ·subst x12
    go_wp2
    go_ret
    exact ⟨ret_bool (by rw [F.out,FX.out];rfl),HB.out⟩
   have y10:(x==10)=false:=by simpa using x10
   have y12:(x==12)=false:=by simpa using x12
   go_wp2
   go_ret
   exact ⟨ret_bool (by rw [F.out,FX.out,Bool.eq_iff_iff];simp [Plain.endB,x10,x12]),HB.out⟩
theorem specCode_any (s : Option Addr) (c B : Nat) (l : List I5) (w : World) (h : InsB w B s l) (hB : B ≤ w.heap.size) (hl : l.length ≤ 1048576) :
  Calls Tryz.prog 50 #[.slice s l.length c] w fun e w'=>e=.returned (.bool (codeB l))∧Below w.heap.size w w':=by
 rcases h with rfl | ⟨g,off,rfl,hg,hc⟩
 ·have h1:Plain.inB ((0:Nat):Int) 1 800=false:=by decide
  have h2:Plain.inB 0 1 800=false:=by decide
  have F:Hid (codeB []=false):=code_short (l:=[]) h1
  clear h1
  go_enter Tryz.func50,Tryz.ntmps50
  go_wp2_with (go_at_call 23;refine (l1In_is _ _ _ _ _ h2).mono ?_;rintro e w' ⟨rfl,rfl⟩)
  go_ret
  exact ⟨by rw [F.out];rfl,Below.refl _ _⟩
 ·exact specCode_some g off c B l w hg hc hB hl
end
end Go.Proofs.YtlbeploopclegaaGreat
