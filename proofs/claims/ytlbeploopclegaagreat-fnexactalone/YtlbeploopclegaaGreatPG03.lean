/- How rows of integers read as arguments of a law. No condition. How memories read as arguments of a law. No condition. Machines as they lie in memory: rows of code, of cores, a memory, notes; how great they are. No condition. How machines and rows of code read as arguments of a law. No condition. Memories written over with running numbers, place by place, and looked at again. Conditions: fewer than 2^20 + 101 integers. -/
import Derived.Test.YtlbeploopclegaaGreatPG00
import Derived.Test.YtlbeploopclegaaGreatPG02
import Derived.Test.YtlbeploopclegaaGreatRows
import Derived.Test.YtlbeploopclegaaGreatPG01
import Derived.ProofKit
import Derived.OpenShut
import Derived.ShutString
import Derived.ChangeOld
import Derived.Below
import Derived.Deep.Slices
namespace Go.Proofs.YtlbeploopclegaaGreat
section
set_option linter.unusedSimpArgs false
set_option linter.unusedVariables false
set_option maxRecDepth 100000
open Go.ChangeShapes Go.WideShapes Go.ChangeAt Go.RowKit Go.Deep
theorem list2 {α:Type} {cs:List α} (h:cs.length=2):∃ c0 c1,cs=[c0,c1]:=by
 match cs,h with
 | [c0,c1],_=>exact ⟨c0,c1,rfl⟩
theorem ownP:ownKnob Tryz.prog.godebug=none:=by kernel_rfl
theorem laidOutP:laidOutB Tryz.prog=true:=by kernel_rfl
theorem cellsSi:Tryz.prog.cellsOf 51=1:=by kernel_rfl
theorem ints_read {H : Type} {enc : TypeId × Value → H} {w : World} {base : Nat} {held : Bool} {fuel : Nat} {v : Value} {x : DataW H × List MemPlace}
  (hf:DataW.trod enc Tryz.prog w base (fun _=>true) held fuel 51 [v]=some x):
  ∃ (s:Option Addr) (c:Nat) (l:List Int),v=.slice s l.length c∧l.length≤maxLen∧IntsR w 0 w.heap.size s l:=by
 rcases open_ints Tryz.underlying51 Tryz.underlying3 cellsInt hf with ⟨hcs,_⟩ | ⟨a,len,cap,zs,hcs,_,hl,hm,hz,_,hcell,_⟩
 ·simp at hcs
  exact ⟨none,0,[],hcs,Nat.zero_le _,.inl rfl⟩
 ·simp at hcs hz
  by_cases h0:len=0
  ·subst h0
   exact ⟨some a,cap,[],hcs,Nat.zero_le _,.inl rfl⟩
  ·have c0:=hcell 0 (by omega)
   have c0':w.cell? a=some (.int .i64 (zs.getD 0 0)):=by simpa [Addr.add] using c0
   have hs:=World.cell?_spot c0'
   have hg:=cell_lt c0'
   obtain ⟨g,off,spot⟩:=a
   simp at hs
   subst hs
   refine ⟨some ⟨g,off,none⟩,cap,zs.take len,?_,?_,.inr ⟨g,off,rfl,Nat.zero_le _,hg,?_⟩⟩
   ·rw [hcs]
    congr 1
    simp
    omega
   ·simp
    omega
   ·intro i hi
    have hi':i < len:=by simp at hi;omega
    have:=hcell i (by omega)
    rw [add_plain] at this
    rw [this]
    simp [List.getD_eq_getElem?_getD,List.getElem?_take,hi']
end
section
set_option linter.unusedSimpArgs false
set_option linter.unusedVariables false
set_option maxRecDepth 100000
open Go.ChangeShapes Go.WideShapes Go.ChangeAt Go.RowKit Go.Deep
theorem cellsWrite:Tryz.prog.cellsOf 170=2:=by kernel_rfl
theorem cellsWS:Tryz.prog.cellsOf 145=1:=by kernel_rfl
theorem cellsWSS:Tryz.prog.cellsOf 24=1:=by kernel_rfl
theorem cellsMem:Tryz.prog.cellsOf 26=1:=by kernel_rfl
theorem list1 {α:Type} {cs:List α} (h:cs.length=1):∃ c0,cs=[c0]:=by
 match cs,h with
 | [c0],_=>exact ⟨c0,rfl⟩
theorem write_cells {H : Type} {enc : TypeId × Value → H} {w : World} {base : Nat} {held : Bool} {fuel : Nat} {cs : List Value} {x : DataW H × List MemPlace}
  (h:DataW.trod enc Tryz.prog w base (fun _=>true) held fuel 170 cs=some x):
  ∃ (t:WD) (s:Option Addr) (c:Nat),cs=[.int .i64 t.v,.slice s t.vw.length c]∧t.vw.length≤maxLen∧IntsR w 0 w.heap.size s t.vw:=by
 obtain ⟨xs,n,_,rfl,hl,hlen,hf⟩:=DataW.trod_struct Tryz.underlying170 h
 rw [cellsWrite] at hl
 obtain ⟨c0,c1,rfl⟩:=list2 hl
 obtain ⟨y0,y1,rfl⟩:=list2 (hlen.trans rfl)
 have g0:=hf 0 _ rfl
 have g1:=hf 1 _ rfl
 simp [cellsInt,cellsSi] at g0 g1
 obtain ⟨pc,e0,-,-⟩:=DataW.trod_int Tryz.underlying3 g0
 obtain ⟨s,c,l,rfl,ha,hA⟩:=ints_read g1
 simp at e0
 subst e0
 exact ⟨⟨pc,l⟩,s,c,rfl,ha,hA⟩
theorem writes_read {H : Type} {enc : TypeId × Value → H} {w : World} {base : Nat} {held : Bool} {fuel : Nat} {v : Value} {x : DataW H × List MemPlace}
  (hf:DataW.trod enc Tryz.prog w base (fun _=>true) held fuel 145 [v]=some x):
  ∃ (s:Option Addr) (c:Nat) (l:List WD),v=.slice s l.length c∧l.length≤maxLen∧(∀ (i:Nat) (t:WD),l[i]? =some t→t.vw.length≤maxLen)∧WsR w 0 w.heap.size s l:=by
 rcases open_slice Tryz.underlying145 hf with ⟨hcs,-⟩ | ⟨a,len,cap,m,n,D,Pl,hcs,-,hl,hm,hmm,-,hel⟩
 ·simp at hcs
  exact ⟨none,0,[],hcs,Nat.zero_le _,fun i t ht=>by simp at ht,.inl rfl⟩
 ·simp at hcs
  rw [cellsWrite] at hel
  have hle:len≤m:=by rw [hmm];split<;>omega
  by_cases h0:len=0
  ·subst h0
   exact ⟨some a,cap,[],hcs,Nat.zero_le _,fun i t ht=>by simp at ht,.inl rfl⟩
  ·obtain ⟨cs0,h1,h2⟩:=hel 0 (by omega)
   obtain ⟨t0,q0,r0,rfl,-,-⟩:=write_cells h2
   obtain ⟨-,-,hcell0⟩:=World.cells?_some h1
   have c0:w.cell? a=some (.int .i64 t0.v):=by simpa [Addr.add] using hcell0 0 (by omega)
   have hs:=World.cell?_spot c0
   have hg:=cell_lt c0
   obtain ⟨g,off,spot⟩:=a
   simp at hs
   subst hs
   obtain ⟨V,hV⟩:=@choose_lt WD ⟨t0⟩ len (fun i y=>WR w 0 w.heap.size g (off+i * 2) y∧y.vw.length≤maxLen) (fun i hi=>by
    obtain ⟨cs',h1,h2⟩:=hel i (by omega)
    obtain ⟨t,q,r,rfl,hm1,hI⟩:=write_cells h2
    obtain ⟨-,-,hcell⟩:=World.cells?_some h1
    rw [add_plain] at hcell
    have c0:=hcell 0 (by omega)
    have c1:=hcell 1 (by omega)
    rw [add_plain] at c0 c1
    exact ⟨t,⟨q,r,c0,c1,hI⟩,hm1⟩)
   have e:∀ i t,((List.range len).map V)[i]? =some t→i < len∧t=V i:=fun i t ht=>by
    rw [List.getElem?_map] at ht
    obtain ⟨y,hy,rfl⟩:=Option.map_eq_some_iff.1 ht
    have hi:i < len:=by have:=(List.getElem?_eq_some_iff.1 hy).1;simpa using this
    rw [List.getElem?_range hi] at hy
    injection hy with hy
    exact ⟨hi,by rw [hy]⟩
   refine ⟨some ⟨g,off,none⟩,cap,(List.range len).map V,by simp [hcs],by simp;omega,fun i t ht=>?_,.inr ⟨g,off,rfl,Nat.zero_le _,hg,fun i r hr=>?_⟩⟩
   ·obtain ⟨hi,rfl⟩:=e i t ht
    exact (hV i hi).2
   ·obtain ⟨hi,rfl⟩:=e i r hr
    exact (hV i hi).1
theorem mem_read {H : Type} {enc : TypeId × Value → H} {w : World} {base : Nat} {held : Bool} {fuel : Nat} {v : Value} {x : DataW H × List MemPlace}
  (hf:DataW.trod enc Tryz.prog w base (fun _=>true) held fuel 24 [v]=some x):
  ∃ (s:Option Addr) (c:Nat) (m:List (List WD)),v=.slice s m.length c∧MLens m∧MemR w 0 w.heap.size s m:=by
 rcases open_slice1 Tryz.underlying24 cellsWS hf with ⟨hcs,-⟩ | ⟨a,len,cap,m,n,V,D,Pl,hcs,-,hl,hm,hmm,-,hel⟩
 ·simp at hcs
  exact ⟨none,0,[],hcs,⟨Nat.zero_le _,fun i l h=>by simp at h,fun i l k x h=>by simp at h⟩,.inl rfl⟩
 ·simp at hcs
  have hle:len≤m:=by rw [hmm];split<;>omega
  by_cases h0:len=0
  ·subst h0
   exact ⟨some a,cap,[],hcs,⟨Nat.zero_le _,fun i l h=>by simp at h,fun i l k x h=>by simp at h⟩,.inl rfl⟩
  ·obtain ⟨c0,-⟩:=hel 0 (by omega)
   have c0':w.cell? a=some (V 0):=by simpa [Addr.add] using c0
   have hs:=World.cell?_spot c0'
   have hg:=cell_lt c0'
   obtain ⟨g,off,spot⟩:=a
   simp at hs
   subst hs
   obtain ⟨L,hL⟩:=@choose_lt (List WD) ⟨[]⟩ len (fun i l=>RwR w 0 w.heap.size g (off+i) l∧l.length≤maxLen∧∀ (k:Nat) (x:WD),l[k]? =some x→x.vw.length≤maxLen) (fun i hi=>by
    obtain ⟨h1,h2⟩:=hel i (by omega)
    obtain ⟨s,c,l,hv,hlm,hlv,hin⟩:=writes_read h2
    rw [add_plain,hv] at h1
    exact ⟨l,⟨s,c,h1,hin⟩,hlm,hlv⟩)
   have e:∀ i t,((List.range len).map L)[i]? =some t→i < len∧t=L i:=fun i t ht=>by
    rw [List.getElem?_map] at ht
    obtain ⟨y,hy,rfl⟩:=Option.map_eq_some_iff.1 ht
    have hi:i < len:=by have:=(List.getElem?_eq_some_iff.1 hy).1;simpa using this
    rw [List.getElem?_range hi] at hy
    injection hy with hy
    exact ⟨hi,by rw [hy]⟩
   refine ⟨some ⟨g,off,none⟩,cap,(List.range len).map L,by simp [hcs],⟨by simp;omega,fun i l hl=>?_,fun i l k x hl hx=>?_⟩,.inr ⟨g,off,rfl,Nat.zero_le _,hg,fun i l hl=>?_⟩⟩
   ·obtain ⟨hi,rfl⟩:=e i l hl
    exact (hL i hi).2.1
   ·obtain ⟨hi,rfl⟩:=e i l hl
    exact (hL i hi).2.2 k x hx
   ·obtain ⟨hi,rfl⟩:=e i l hl
    exact (hL i hi).1
end
section
set_option linter.unusedSimpArgs false
set_option linter.unusedVariables false
set_option maxRecDepth 100000
open Go.RowKit
def InsR (w:World) (lo hi:Nat) (s:Option Addr) (l:List I5):Prop:=
 l=[]∨∃ g off,s=some ⟨g,off,none⟩∧lo≤g∧g < hi∧∀ i,i < l.length→At5 w g (off+i * 5) (l.getD i z5)
theorem At5.of_keep {w w':World} {lo hi g off:Nat} {x:I5} (h:At5 w g off x) (hb:Keep lo hi w w') (h1:lo≤g) (h2:g < hi):At5 w' g off x:=
 ⟨(hb.cell h1 h2).trans h.1,(hb.cell h1 h2).trans h.2.1,(hb.cell h1 h2).trans h.2.2.1,(hb.cell h1 h2).trans h.2.2.2.1,(hb.cell h1 h2).trans h.2.2.2.2⟩
theorem InsR.keep {w w':World} {lo hi:Nat} {s:Option Addr} {l:List I5} (h:InsR w lo hi s l) (hb:Keep lo hi w w'):InsR w' lo hi s l:=by
 rcases h with h | ⟨g,o,hs,h1,h2,hc⟩
 ·exact .inl h
 ·exact .inr ⟨g,o,hs,h1,h2,fun i hi=>(hc i hi).of_keep hb h1 h2⟩
theorem InsR.insB {w:World} {lo hi:Nat} {s:Option Addr} {l:List I5} (h:InsR w lo hi s l):InsB w hi s l:=by
 rcases h with h | ⟨g,o,hs,a,b,hc⟩
 ·exact .inl h
 ·exact .inr ⟨g,o,hs,b,hc⟩
def CR (w:World) (lo hi g off:Nat) (l:List I5):Prop:=∃ s c,w.cell? ⟨g,off,none⟩=some (.slice s l.length c)∧InsR w lo hi s l
def CsR (w:World) (lo hi:Nat) (s:Option Addr) (l:List (List I5)):Prop:=
 l=[]∨∃ g off,s=some ⟨g,off,none⟩∧lo≤g∧g < hi∧∀ (i:Nat) (x:List I5),l[i]? =some x→CR w lo hi g (off+i) x
structure KD where
 pc:Int
 regs:List Int
 vw:List Int
 st:Int
def KR (w:World) (lo hi g off:Nat) (k:KD):Prop:=
 ∃ s c s' c',w.cell? ⟨g,off,none⟩=some (.int .i64 k.pc)∧w.cell? ⟨g,off+1,none⟩=some (.slice s k.regs.length c)∧w.cell? ⟨g,off+2,none⟩=some (.slice s' k.vw.length c')∧w.cell? ⟨g,off+3,none⟩=some (.int .i64 k.st)∧IntsR w lo hi s k.regs∧IntsR w lo hi s' k.vw
def KsR (w:World) (lo hi:Nat) (s:Option Addr) (l:List KD):Prop:=
 l=[]∨∃ g off,s=some ⟨g,off,none⟩∧lo≤g∧g < hi∧∀ (i:Nat) (k:KD),l[i]? =some k→KR w lo hi g (off+i * 4) k
structure MD where
 codes:List (List I5)
 cores:List KD
 mem:List (List WD)
 tr:List ND
def MaR (w:World) (lo hi:Nat) (s1 s2 s3 s4:Option Addr) (d:MD):Prop:=CsR w lo hi s1 d.codes∧KsR w lo hi s2 d.cores∧MemR w lo hi s3 d.mem∧NtsR w lo hi s4 d.tr
theorem CR.keep {w w':World} {lo hi g off:Nat} {l:List I5} (h:CR w lo hi g off l) (hb:Keep lo hi w w') (hc:∀ j,w'.cell? ⟨g,j,none⟩=w.cell? ⟨g,j,none⟩):CR w' lo hi g off l:=by
 obtain ⟨s,c,h1,h2⟩:=h
 exact ⟨s,c,(hc _).trans h1,h2.keep hb⟩
theorem KR.keep {w w':World} {lo hi g off:Nat} {k:KD} (h:KR w lo hi g off k) (hb:Keep lo hi w w') (hc:∀ j,w'.cell? ⟨g,j,none⟩=w.cell? ⟨g,j,none⟩):KR w' lo hi g off k:=by
 obtain ⟨s,c,s',c',h1,h2,h3,h4,h5,h6⟩:=h
 exact ⟨s,c,s',c',(hc _).trans h1,(hc _).trans h2,(hc _).trans h3,(hc _).trans h4,h5.keep hb,h6.keep hb⟩
theorem CsR.keep {w w':World} {lo hi:Nat} {s:Option Addr} {l:List (List I5)} (h:CsR w lo hi s l) (hb:Keep lo hi w w'):CsR w' lo hi s l:=by
 rcases h with h | ⟨g,o,hs,h1,h2,hc⟩
 ·exact .inl h
 ·exact .inr ⟨g,o,hs,h1,h2,fun i r hi=>(hc i r hi).keep hb (fun j=>hb.cell h1 h2)⟩
theorem KsR.keep {w w':World} {lo hi:Nat} {s:Option Addr} {l:List (KD)} (h:KsR w lo hi s l) (hb:Keep lo hi w w'):KsR w' lo hi s l:=by
 rcases h with h | ⟨g,o,hs,h1,h2,hc⟩
 ·exact .inl h
 ·exact .inr ⟨g,o,hs,h1,h2,fun i r hi=>(hc i r hi).keep hb (fun j=>hb.cell h1 h2)⟩
theorem CsR.at {w:World} {lo hi:Nat} {s:Option Addr} {l:List (List I5)} (h:CsR w lo hi s l) {i:Nat} {x:List I5} (hi':l[i]? =some x):∃ g off s' c',s=some ⟨g,off,none⟩∧lo≤g∧g < hi∧w.cell? ⟨g,off+i,none⟩=some (.slice s' x.length c')∧InsR w lo hi s' x:=by
 rcases h with rfl | ⟨g,o,hs,a,b,hc⟩
 ·simp at hi'
 ·obtain ⟨s',c',e1,e2⟩:=hc i x hi'
  exact ⟨g,o,s',c',hs,a,b,e1,e2⟩
theorem KsR.at {w:World} {lo hi:Nat} {s:Option Addr} {l:List KD} (h:KsR w lo hi s l) {i:Nat} {x:KD} (hi':l[i]? =some x):∃ g off s1 c1 s2 c2,s=some ⟨g,off,none⟩∧lo≤g∧g < hi∧w.cell? ⟨g,off+i * 4,none⟩=some (.int .i64 x.pc)∧w.cell? ⟨g,off+i * 4+1,none⟩=some (.slice s1 x.regs.length c1)∧w.cell? ⟨g,off+i * 4+2,none⟩=some (.slice s2 x.vw.length c2)∧w.cell? ⟨g,off+i * 4+3,none⟩=some (.int .i64 x.st)∧IntsR w lo hi s1 x.regs∧IntsR w lo hi s2 x.vw:=by
 rcases h with rfl | ⟨g,o,hs,a,b,hc⟩
 ·simp at hi'
 ·obtain ⟨s',c',s2,c2,e⟩:=hc i x hi'
  exact ⟨g,o,s',c',s2,c2,hs,a,b,e⟩
theorem MaR.keep {w w':World} {lo hi:Nat} {s1 s2 s3 s4:Option Addr} {d:MD} (h:MaR w lo hi s1 s2 s3 s4 d) (hb:Keep lo hi w w'):MaR w' lo hi s1 s2 s3 s4 d:=⟨h.1.keep hb,h.2.1.keep hb,h.2.2.1.keep hb,h.2.2.2.keep hb⟩
/- how great they are -/
def szC:List (List I5)→Nat
 | []=>0
 | x::r=>x.length+szC r
def szK:List KD→Nat
 | []=>0
 | x::r=>x.regs.length+x.vw.length+szK r
theorem szC_take:∀ (l:List (List I5)) (k:Nat) (x:List I5),l[k]? =some x→szC (l.take (k+1))=szC (l.take k)+x.length
 | [],k,x,h=>by simp at h
 | y::r,0,x,h=>by simp at h;subst h;simp [szC]
 | y::r,k+1,x,h=>by
  have:=szC_take r k x (by simpa using h)
  simp [szC,this]
  omega
theorem szK_take:∀ (l:List KD) (k:Nat) (x:KD),l[k]? =some x→szK (l.take (k+1))=szK (l.take k)+(x.regs.length+x.vw.length)
 | [],k,x,h=>by simp at h
 | y::r,0,x,h=>by simp at h;subst h;simp [szK]
 | y::r,k+1,x,h=>by
  have:=szK_take r k x (by simpa using h)
  simp [szK,this]
  omega
theorem szC_at:∀ (l:List (List I5)) (k:Nat) (x:List I5),l[k]? =some x→x.length≤szC l
 | [],k,x,h=>by simp at h
 | y::r,0,x,h=>by simp at h;subst h;simp [szC]
 | y::r,k+1,x,h=>by
  have:=szC_at r k x (by simpa using h)
  simp [szC]
  omega
theorem szK_at:∀ (l:List KD) (k:Nat) (x:KD),l[k]? =some x→x.regs.length+x.vw.length≤szK l
 | [],k,x,h=>by simp at h
 | y::r,0,x,h=>by simp at h;subst h;simp [szK]
 | y::r,k+1,x,h=>by
  have:=szK_at r k x (by simpa using h)
  simp [szK]
  omega
structure MaLens (d:MD):Prop where
 cn:d.codes.length≤maxLen
 c:∀ (i:Nat) (x:List I5),d.codes[i]? =some x→x.length≤maxLen
 kn:d.cores.length≤maxLen
 k:∀ (i:Nat) (x:KD),d.cores[i]? =some x→x.regs.length≤maxLen∧x.vw.length≤maxLen
 m:MLens d.mem
 t:d.tr.length≤maxLen
structure MaFits (d:MD):Prop where
 c:d.codes.length+szC d.codes≤1048576
 k:d.cores.length+szK d.cores≤1048576
 m:d.mem.length+szR d.mem≤2000000
 t:d.tr.length≤2000000
def MaSz (d:MD):Nat:=d.codes.length+szC d.codes+(d.cores.length+szK d.cores)+(d.mem.length+szR d.mem)+d.tr.length
theorem MaFits.of {d:MD} (h:MaSz d≤1048576):MaFits d:=by
 unfold MaSz at h
 exact ⟨by omega,by omega,by omega,by omega⟩
end
section
set_option linter.unusedSimpArgs false
set_option linter.unusedVariables false
set_option maxRecDepth 100000
open Go.ChangeShapes Go.WideShapes Go.ChangeAt Go.RowKit Go.Deep
theorem cellsStepS:Tryz.prog.cellsOf 110=1:=by kernel_rfl
theorem cellsStepSS:Tryz.prog.cellsOf 22=1:=by kernel_rfl
theorem steps_read {H : Type} {enc : TypeId × Value → H} {w : World} {base : Nat} {held : Bool} {fuel : Nat} {v : Value} {x : DataW H × List MemPlace}
  (hf:DataW.trod enc Tryz.prog w base (fun _=>true) held fuel 110 [v]=some x):
  ∃ (s:Option Addr) (c:Nat) (l:List I5),v=.slice s l.length c∧l.length≤maxLen∧InsR w 0 w.heap.size s l:=by
 rcases open_slice Tryz.underlying110 hf with ⟨hcs,-⟩ | ⟨a,len,cap,m,n,D,Pl,hcs,-,hl,hm,hmm,-,hel⟩
 ·simp at hcs
  exact ⟨none,0,[],hcs,Nat.zero_le _,.inl rfl⟩
 ·simp at hcs
  rw [cellsStep] at hel
  have hle:len≤m:=by rw [hmm];split<;>omega
  by_cases h0:len=0
  ·subst h0
   exact ⟨some a,cap,[],hcs,Nat.zero_le _,.inl rfl⟩
  ·obtain ⟨cs0,h1,h2⟩:=hel 0 (by omega)
   obtain ⟨hs,hg⟩:=stepS_spot h1 h2
   obtain ⟨g,off,spot⟩:=a
   simp at hs
   subst hs
   obtain ⟨V,hV⟩:=@choose_lt I5 ⟨z5⟩ len (fun i y=>At5 w g (off+i * 5) y) (fun i hi=>by
    obtain ⟨cs',h1,h2⟩:=hel i (by omega)
    exact stepS_at h1 h2)
   refine ⟨some ⟨g,off,none⟩,cap,(List.range len).map V,by simp [hcs],by simp;omega,.inr ⟨g,off,rfl,Nat.zero_le _,hg,?_⟩⟩
   intro i hi
   simp at hi
   have e:((List.range len).map V).getD i z5=V i:=by simp [hi]
   rw [e]
   exact hV i hi
theorem codes_read {H : Type} {enc : TypeId × Value → H} {w : World} {base : Nat} {held : Bool} {fuel : Nat} {v : Value} {x : DataW H × List MemPlace}
  (hf:DataW.trod enc Tryz.prog w base (fun _=>true) held fuel 22 [v]=some x):
  ∃ (s:Option Addr) (c:Nat) (m:List (List I5)),v=.slice s m.length c∧m.length≤maxLen∧(∀ (i:Nat) (x:List I5),m[i]? =some x→x.length≤maxLen)∧CsR w 0 w.heap.size s m:=by
 rcases open_slice1 Tryz.underlying22 cellsStepS hf with ⟨hcs,-⟩ | ⟨a,len,cap,m,n,V,D,Pl,hcs,-,hl,hm,hmm,-,hel⟩
 ·simp at hcs
  exact ⟨none,0,[],hcs,Nat.zero_le _,fun i l h=>by simp at h,.inl rfl⟩
 ·simp at hcs
  have hle:len≤m:=by rw [hmm];split<;>omega
  by_cases h0:len=0
  ·subst h0
   exact ⟨some a,cap,[],hcs,Nat.zero_le _,fun i l h=>by simp at h,.inl rfl⟩
  ·obtain ⟨c0,-⟩:=hel 0 (by omega)
   have c0':w.cell? a=some (V 0):=by simpa [Addr.add] using c0
   have hs:=World.cell?_spot c0'
   have hg:=cell_lt c0'
   obtain ⟨g,off,spot⟩:=a
   simp at hs
   subst hs
   obtain ⟨L,hL⟩:=@choose_lt (List I5) ⟨[]⟩ len (fun i l=>CR w 0 w.heap.size g (off+i) l∧l.length≤maxLen) (fun i hi=>by
    obtain ⟨h1,h2⟩:=hel i (by omega)
    obtain ⟨s,c,l,hv,hlm,hin⟩:=steps_read h2
    rw [add_plain,hv] at h1
    exact ⟨l,⟨s,c,h1,hin⟩,hlm⟩)
   have e:∀ i t,((List.range len).map L)[i]? =some t→i < len∧t=L i:=fun i t ht=>by
    rw [List.getElem?_map] at ht
    obtain ⟨y,hy,rfl⟩:=Option.map_eq_some_iff.1 ht
    have hi:i < len:=by have:=(List.getElem?_eq_some_iff.1 hy).1;simpa using this
    rw [List.getElem?_range hi] at hy
    injection hy with hy
    exact ⟨hi,by rw [hy]⟩
   refine ⟨some ⟨g,off,none⟩,cap,(List.range len).map L,by simp [hcs],by simp;omega,fun i l hl=>?_,.inr ⟨g,off,rfl,Nat.zero_le _,hg,fun i l hl=>?_⟩⟩
   ·obtain ⟨hi,rfl⟩:=e i l hl
    exact (hL i hi).2
   ·obtain ⟨hi,rfl⟩:=e i l hl
    exact (hL i hi).1
theorem cellsCore:Tryz.prog.cellsOf 112=4:=by kernel_rfl
theorem list4 {α:Type} {cs:List α} (h:cs.length=4):∃ c0 c1 c2 c3,cs=[c0,c1,c2,c3]:=by
 match cs,h with
 | [c0,c1,c2,c3],_=>exact ⟨c0,c1,c2,c3,rfl⟩
theorem core_cells {H : Type} {enc : TypeId × Value → H} {w : World} {base : Nat} {held : Bool} {fuel : Nat} {cs : List Value} {x : DataW H × List MemPlace}
  (h:DataW.trod enc Tryz.prog w base (fun _=>true) held fuel 112 cs=some x):
  ∃ (t:KD) (s:Option Addr) (c:Nat) (s':Option Addr) (c':Nat),cs=[.int .i64 t.pc,.slice s t.regs.length c,.slice s' t.vw.length c',.int .i64 t.st]∧(t.regs.length≤maxLen∧t.vw.length≤maxLen)∧IntsR w 0 w.heap.size s t.regs∧IntsR w 0 w.heap.size s' t.vw:=by
 obtain ⟨xs,n,_,rfl,hl,hlen,hf⟩:=DataW.trod_struct Tryz.underlying112 h
 rw [cellsCore] at hl
 obtain ⟨c0,c1,c2,c3,rfl⟩:=list4 hl
 obtain ⟨y0,y1,y2,y3,rfl⟩:=list4 (hlen.trans rfl)
 have g0:=hf 0 _ rfl
 have g1:=hf 1 _ rfl
 have g2:=hf 2 _ rfl
 have g3:=hf 3 _ rfl
 simp [cellsInt,cellsSi] at g0 g1 g2 g3
 obtain ⟨pc,e0,-,-⟩:=DataW.trod_int Tryz.underlying3 g0
 obtain ⟨st,e3,-,-⟩:=DataW.trod_int Tryz.underlying3 g3
 obtain ⟨s,c,l,rfl,ha,hA⟩:=ints_read g1
 obtain ⟨s',c',l',rfl,ha',hA'⟩:=ints_read g2
 simp at e0 e3
 subst e0 e3
 exact ⟨⟨pc,l,l',st⟩,s,c,s',c',rfl,⟨ha,ha'⟩,hA,hA'⟩
theorem cores_read {H : Type} {enc : TypeId × Value → H} {w : World} {base : Nat} {held : Bool} {fuel : Nat} {v : Value} {x : DataW H × List MemPlace}
  (hf:DataW.trod enc Tryz.prog w base (fun _=>true) held fuel 23 [v]=some x):
  ∃ (s:Option Addr) (c:Nat) (l:List KD),v=.slice s l.length c∧l.length≤maxLen∧(∀ (i:Nat) (t:KD),l[i]? =some t→t.regs.length≤maxLen∧t.vw.length≤maxLen)∧KsR w 0 w.heap.size s l:=by
 rcases open_slice Tryz.underlying23 hf with ⟨hcs,-⟩ | ⟨a,len,cap,m,n,D,Pl,hcs,-,hl,hm,hmm,-,hel⟩
 ·simp at hcs
  exact ⟨none,0,[],hcs,Nat.zero_le _,fun i t ht=>by simp at ht,.inl rfl⟩
 ·simp at hcs
  rw [cellsCore] at hel
  have hle:len≤m:=by rw [hmm];split<;>omega
  by_cases h0:len=0
  ·subst h0
   exact ⟨some a,cap,[],hcs,Nat.zero_le _,fun i t ht=>by simp at ht,.inl rfl⟩
  ·obtain ⟨cs0,h1,h2⟩:=hel 0 (by omega)
   obtain ⟨t0,q0,r0,q1,r1,rfl,-,-,-⟩:=core_cells h2
   obtain ⟨-,-,hcell0⟩:=World.cells?_some h1
   have c0:w.cell? a=some (.int .i64 t0.pc):=by simpa [Addr.add] using hcell0 0 (by omega)
   have hs:=World.cell?_spot c0
   have hg:=cell_lt c0
   obtain ⟨g,off,spot⟩:=a
   simp at hs
   subst hs
   obtain ⟨V,hV⟩:=@choose_lt KD ⟨t0⟩ len (fun i y=>KR w 0 w.heap.size g (off+i * 4) y∧(y.regs.length≤maxLen∧y.vw.length≤maxLen)) (fun i hi=>by
    obtain ⟨cs',h1,h2⟩:=hel i (by omega)
    obtain ⟨t,q,r,q',r',rfl,hm1,hI,hI'⟩:=core_cells h2
    obtain ⟨-,-,hcell⟩:=World.cells?_some h1
    rw [add_plain] at hcell
    have c0:=hcell 0 (by omega)
    have c1:=hcell 1 (by omega)
    have c2:=hcell 2 (by omega)
    have c3:=hcell 3 (by omega)
    rw [add_plain] at c0 c1 c2 c3
    exact ⟨t,⟨q,r,q',r',c0,c1,c2,c3,hI,hI'⟩,hm1⟩)
   have e:∀ i t,((List.range len).map V)[i]? =some t→i < len∧t=V i:=fun i t ht=>by
    rw [List.getElem?_map] at ht
    obtain ⟨y,hy,rfl⟩:=Option.map_eq_some_iff.1 ht
    have hi:i < len:=by have:=(List.getElem?_eq_some_iff.1 hy).1;simpa using this
    rw [List.getElem?_range hi] at hy
    injection hy with hy
    exact ⟨hi,by rw [hy]⟩
   refine ⟨some ⟨g,off,none⟩,cap,(List.range len).map V,by simp [hcs],by simp;omega,fun i t ht=>?_,.inr ⟨g,off,rfl,Nat.zero_le _,hg,fun i r hr=>?_⟩⟩
   ·obtain ⟨hi,rfl⟩:=e i t ht
    exact (hV i hi).2
   ·obtain ⟨hi,rfl⟩:=e i r hr
    exact (hV i hi).1
theorem cellsNote:Tryz.prog.cellsOf 126=2:=by kernel_rfl
theorem note_cells {H : Type} {enc : TypeId × Value → H} {w : World} {base : Nat} {held : Bool} {fuel : Nat} {cs : List Value} {x : DataW H × List MemPlace}
  (h:DataW.trod enc Tryz.prog w base (fun _=>true) held fuel 126 cs=some x):∃ t:ND,cs=[.int .i64 t.who,.int .i64 t.v]:=by
 obtain ⟨xs,n,_,rfl,hl,hlen,hf⟩:=DataW.trod_struct Tryz.underlying126 h
 rw [cellsNote] at hl
 obtain ⟨c0,c1,rfl⟩:=list2 hl
 obtain ⟨y0,y1,rfl⟩:=list2 (hlen.trans rfl)
 have g0:=hf 0 _ rfl
 have g1:=hf 1 _ rfl
 simp [cellsInt] at g0 g1
 obtain ⟨a,e0,-,-⟩:=DataW.trod_int Tryz.underlying3 g0
 obtain ⟨b,e1,-,-⟩:=DataW.trod_int Tryz.underlying3 g1
 simp at e0 e1
 subst e0 e1
 exact ⟨⟨a,b⟩,rfl⟩
theorem notes_read {H : Type} {enc : TypeId × Value → H} {w : World} {base : Nat} {held : Bool} {fuel : Nat} {v : Value} {x : DataW H × List MemPlace}
  (hf:DataW.trod enc Tryz.prog w base (fun _=>true) held fuel 27 [v]=some x):
  ∃ (s:Option Addr) (c:Nat) (l:List ND),v=.slice s l.length c∧l.length≤maxLen∧NtsR w 0 w.heap.size s l:=by
 rcases open_slice Tryz.underlying27 hf with ⟨hcs,-⟩ | ⟨a,len,cap,m,n,D,Pl,hcs,-,hl,hm,hmm,-,hel⟩
 ·simp at hcs
  exact ⟨none,0,[],hcs,Nat.zero_le _,.inl rfl⟩
 ·simp at hcs
  rw [cellsNote] at hel
  have hle:len≤m:=by rw [hmm];split<;>omega
  by_cases h0:len=0
  ·subst h0
   exact ⟨some a,cap,[],hcs,Nat.zero_le _,.inl rfl⟩
  ·obtain ⟨cs0,h1,h2⟩:=hel 0 (by omega)
   obtain ⟨t0,rfl⟩:=note_cells h2
   obtain ⟨-,-,hcell0⟩:=World.cells?_some h1
   have c0:w.cell? a=some (.int .i64 t0.who):=by simpa [Addr.add] using hcell0 0 (by omega)
   have hs:=World.cell?_spot c0
   have hg:=cell_lt c0
   obtain ⟨g,off,spot⟩:=a
   simp at hs
   subst hs
   obtain ⟨V,hV⟩:=@choose_lt ND ⟨t0⟩ len (fun i y=>NtR w g (off+i * 2) y) (fun i hi=>by
    obtain ⟨cs',h1,h2⟩:=hel i (by omega)
    obtain ⟨t,rfl⟩:=note_cells h2
    obtain ⟨-,-,hcell⟩:=World.cells?_some h1
    rw [add_plain] at hcell
    have c0:=hcell 0 (by omega)
    have c1:=hcell 1 (by omega)
    rw [add_plain] at c0 c1
    exact ⟨t,c0,c1⟩)
   refine ⟨some ⟨g,off,none⟩,cap,(List.range len).map V,by simp [hcs],by simp;omega,.inr ⟨g,off,rfl,Nat.zero_le _,hg,fun i r hr=>?_⟩⟩
   rw [List.getElem?_map] at hr
   obtain ⟨y,hy,rfl⟩:=Option.map_eq_some_iff.1 hr
   have hi:i < len:=by have:=(List.getElem?_eq_some_iff.1 hy).1;simpa using this
   rw [List.getElem?_range hi] at hy
   injection hy with hy
   rw [← hy]
   exact hV i hi
theorem cellsSN:Tryz.prog.cellsOf 27=1:=by kernel_rfl
theorem cellsSK:Tryz.prog.cellsOf 23=1:=by kernel_rfl
theorem cellsMach:Tryz.prog.cellsOf 29=4:=by kernel_rfl
theorem memory_read {H : Type} {enc : TypeId × Value → H} {w : World} {base : Nat} {held : Bool} {fuel : Nat} {v : Value} {x : DataW H × List MemPlace}
  (hf:DataW.trod enc Tryz.prog w base (fun _=>true) held fuel 26 [v]=some x):∃ (s:Option Addr) (c:Nat) (m:List (List WD)),v=.slice s m.length c∧MLens m∧MemR w 0 w.heap.size s m:=by
 obtain ⟨xs,n,_,_,hl,hlen,hfs⟩:=DataW.trod_struct Tryz.underlying26 hf
 obtain ⟨y0,rfl⟩:=list1 (hlen.trans rfl)
 have g0:=hfs 0 _ rfl
 simp [cellsWSS] at g0
 exact mem_read g0
theorem open_machine {H : Type} {enc : TypeId × Value → H} {w : World} {base b0 : Nat} {held : Bool} {k : Reach} {v : Value} {d : DataW H} {q : List MemPlace}
  (hv:Value.okWide Tryz.prog w k b0 29 v) (h:DataW.Trod enc Tryz.prog w base (fun _=>true) held 29 v d q):
  ∃ (s1 s2 s3 s4:Option Addr) (c1 c2 c3 c4:Nat) (p:MD),v=.agg #[.slice s1 p.codes.length c1,.slice s2 p.cores.length c2,.slice s3 p.mem.length c3,.slice s4 p.tr.length c4]∧MaLens p∧MaR w 0 w.heap.size s1 s2 s3 s4 p:=by
 obtain ⟨cs,rfl,hsz⟩:=okWide_struct Tryz.underlying29 hv
 obtain ⟨fuel,hf⟩:=h
 obtain ⟨xs,n,_,_,hl,hlen,hfs⟩:=DataW.trod_struct Tryz.underlying29 hf
 rw [cellsMach] at hl
 obtain ⟨l⟩:=cs
 have hl':l.length=4:=by simpa [Value.cells] using hl
 obtain ⟨c0,c1,c2,c3,rfl⟩:=list4 hl'
 obtain ⟨y0,y1,y2,y3,rfl⟩:=list4 (hlen.trans rfl)
 have g0:=hfs 0 _ rfl
 have g1:=hfs 1 _ rfl
 have g2:=hfs 2 _ rfl
 have g3:=hfs 3 _ rfl
 simp [cellsStepSS,cellsSK,cellsSN,cellsMem,Value.cells] at g0 g1 g2 g3
 obtain ⟨s1,k1,a,rfl,ha,ha',hA⟩:=codes_read g0
 obtain ⟨s2,k2,b,rfl,hb,hb',hB⟩:=cores_read g1
 obtain ⟨s3,k3,m,rfl,hm,hM⟩:=memory_read g2
 obtain ⟨s4,k4,e,rfl,he,hE⟩:=notes_read g3
 exact ⟨s1,s2,s3,s4,k1,k2,k3,k4,⟨a,b,m,e⟩,rfl,⟨ha,ha',hb,hb',hm,he⟩,hA,hB,hM,hE⟩
end
section
set_option linter.unusedSimpArgs false
set_option linter.unusedVariables false
set_option maxRecDepth 100000
open Go.RowKit
structure Wrote (A:List Addr) (q:Int) (w w':World):Prop where
 os:w'.os=w.os
 tape:w'.tape=w.tape
 out:w'.output=w.output
 size:w'.heap.size=w.heap.size
 far:∀ a,a∉A→w'.cell? a=w.cell? a
 fz:∀ a,w'.frozen? a=w.frozen? a
 at':∀ (p:Nat) (a:Addr),A[p]? =some a→w'.cell? a=some (.int .i64 (q+p))
 blk:∀ k,(∀ a∈A,a.block≠k)→w'.heap[k]? =w.heap[k]?
theorem Wrote.refl (q:Int) (w:World):Wrote [] q w w:=⟨rfl,rfl,rfl,rfl,fun _ _=>rfl,fun _=>rfl,fun p a h=>by simp at h,fun _ _=>rfl⟩
theorem Wrote.push {A:List Addr} {q z:Int} {w w1:World} {a:Addr} (h:Wrote A q w w1) (ha:a∉A) (hc:(w1.cell? a).isSome=true) (hz:z=q+A.length):Wrote (A++[a]) q w (w1.setCell a (.int .i64 z)):=by
 subst hz
 refine ⟨h.os,h.tape,h.out,by simpa using h.size,fun b hb=>?_,fun b=>by rw [World.frozen?_setCell];exact h.fz b,fun p b hb=>?_,fun k hk=>?_⟩
 ·simp at hb
  rw [World.cell?_setCell_other _ _ _ _ (fun e=>hb.2 e.symm)]
  exact h.far b hb.1
 ·rcases getElem?_push hb with hb | ⟨rfl,rfl⟩
  ·rw [World.cell?_setCell_other _ _ _ _ (fun e=>ha (by rw [e];exact List.mem_of_getElem? hb))]
   exact h.at' p b hb
  ·exact World.cell?_setCell_same' _ _ _ hc
 ·rw [Below.heap_setCell _ _ _ k (fun e=>hk a (by simp) e.symm)]
  exact h.blk k (fun b hb=>hk b (by simp [hb]))
theorem Wrote.app {A B:List Addr} {q:Int} {w w1 w2:World} (h:Wrote A q w w1) (h':Wrote B (q+A.length) w1 w2) (hd:∀ a∈A,a∉B):Wrote (A++B) q w w2:=by
 refine ⟨h'.os.trans h.os,h'.tape.trans h.tape,h'.out.trans h.out,h'.size.trans h.size,fun b hb=>?_,fun b=>(h'.fz b).trans (h.fz b),fun p b hb=>?_,fun k hk=>?_⟩
 ·simp at hb
  exact (h'.far b hb.2).trans (h.far b hb.1)
 ·by_cases hp:p < A.length
  ·rw [List.getElem?_append_left hp] at hb
   exact (h'.far b (hd b (List.mem_of_getElem? hb))).trans (h.at' p b hb)
  ·rw [List.getElem?_append_right (by omega)] at hb
   rw [h'.at' _ b hb]
   congr 2
   omega
 ·exact (h'.blk k (fun a ha=>hk a (by simp [ha]))).trans (h.blk k (fun a ha=>hk a (by simp [ha])))
def IntC (w:World) (lo hi:Nat) (a:Addr):Prop:=(∃ z,w.cell? a=some (.int .i64 z))∧w.frozen? a=false∧lo≤a.block∧a.block < hi
def Somewhere (s:Option Addr):Prop:=∃ g o,s=some ⟨g,o,none⟩
structure ShR (w:World) (lo hi:Nat) (s:Option Addr) (vs:List VS):Prop where
 rok:vs=[]∨Somewhere s
 vie:∀ (k:Nat) (x:VS),vs[k]? =some x→w.cell? (adr s (k * 2+1))=some (.slice x.s x.n x.c)∧lo≤(adr s (k * 2+1)).block∧(adr s (k * 2+1)).block < hi
 vok:∀ (k:Nat) (x:VS),vs[k]? =some x→x.n=0∨Somewhere x.s
 int:∀ a∈rAs s vs 0,IntC w lo hi a
 nod:(rAs s vs 0).Nodup
structure Sh (w:World) (lo hi:Nat) (so:Option Addr) (S:List RS):Prop where
 top:S=[]∨Somewhere so
 row:∀ (i:Nat) (r:RS),S[i]? =some r→w.cell? (adr so i)=some (.slice r.s r.vs.length r.c)∧lo≤(adr so i).block∧(adr so i).block < hi
 r:∀ (i:Nat) (r:RS),S[i]? =some r→ShR w lo hi r.s r.vs
 nod:(mAs S).Nodup
theorem Sh.int {w:World} {lo hi:Nat} {so:Option Addr} {S:List RS} (h:Sh w lo hi so S):∀ a∈mAs S,IntC w lo hi a:=fun a ha=>by
 obtain ⟨r,hr,har⟩:=mem_mAs.1 ha
 obtain ⟨i,hi',e⟩:=List.getElem_of_mem hr
 exact (h.r i r (by rw [List.getElem?_eq_getElem hi',e])).int a har
theorem IntC.keep {w w':World} {lo hi:Nat} {a:Addr} (h:IntC w lo hi a) (hb:Keep lo hi w w'):IntC w' lo hi a:=by
 obtain ⟨⟨z,h1⟩,h2,h3,h4⟩:=h
 exact ⟨⟨z,(hb.cell h3 h4).trans h1⟩,(hb.frozen h3 h4).trans h2,h3,h4⟩
theorem ShR.keep {w w':World} {lo hi:Nat} {s:Option Addr} {vs:List VS} (h:ShR w lo hi s vs) (hb:Keep lo hi w w'):ShR w' lo hi s vs:=
 ⟨h.rok,fun k x hx=>by obtain ⟨a,b,c⟩:=h.vie k x hx;exact ⟨(hb.cell b c).trans a,b,c⟩,h.vok,fun a ha=>(h.int a ha).keep hb,h.nod⟩
theorem Sh.keep {w w':World} {lo hi:Nat} {so:Option Addr} {S:List RS} (h:Sh w lo hi so S) (hb:Keep lo hi w w'):Sh w' lo hi so S:=
 ⟨h.top,fun k x hx=>by obtain ⟨a,b,c⟩:=h.row k x hx;exact ⟨(hb.cell b c).trans a,b,c⟩,fun i r hr=>(h.r i r hr).keep hb,h.nod⟩
/- a call that writes integers over integers leaves every shape -/
theorem Wrote.intc {A:List Addr} {q:Int} {w w':World} (h:Wrote A q w w') {lo hi:Nat} {a:Addr} (ha:IntC w lo hi a):IntC w' lo hi a:=by
 obtain ⟨⟨z,h1⟩,h2,h3,h4⟩:=ha
 refine ⟨?_,(h.fz a).trans h2,h3,h4⟩
 by_cases hm:a∈A
 ·obtain ⟨p,hp,e⟩:=List.getElem_of_mem hm
  exact ⟨_,h.at' p a (by rw [List.getElem?_eq_getElem hp,e])⟩
 ·exact ⟨z,(h.far a hm).trans h1⟩
theorem Wrote.slice {A:List Addr} {q:Int} {w w':World} (h:Wrote A q w w') (hA:∀ a∈A,∃ z,w.cell? a=some (.int .i64 z)) {a:Addr} {s:Option Addr} {n c:Nat} (ha:w.cell? a=some (.slice s n c)):w'.cell? a=some (.slice s n c):=by
 rw [h.far a (fun hm=>by obtain ⟨z,hz⟩:=hA a hm;rw [ha] at hz;injection hz with hz;cases hz)]
 exact ha
theorem Wrote.shr {A:List Addr} {q:Int} {w w':World} (h:Wrote A q w w') (hA:∀ a∈A,∃ z,w.cell? a=some (.int .i64 z)) {lo hi:Nat} {s:Option Addr} {vs:List VS} (hs:ShR w lo hi s vs):ShR w' lo hi s vs:=
 ⟨hs.rok,fun k x hx=>by obtain ⟨a,b,c⟩:=hs.vie k x hx;exact ⟨h.slice hA a,b,c⟩,hs.vok,fun a ha=>h.intc (hs.int a ha),hs.nod⟩
theorem Wrote.sh {A:List Addr} {q:Int} {w w':World} (h:Wrote A q w w') (hA:∀ a∈A,∃ z,w.cell? a=some (.int .i64 z)) {lo hi:Nat} {so:Option Addr} {S:List RS} (hs:Sh w lo hi so S):Sh w' lo hi so S:=
 ⟨hs.top,fun k x hx=>by obtain ⟨a,b,c⟩:=hs.row k x hx;exact ⟨h.slice hA a,b,c⟩,fun i r hr=>h.shr hA (hs.r i r hr),hs.nod⟩
theorem rAs_append (s:Option Addr) (b:List VS):∀ (a:List VS) (k:Nat),rAs s (a++b) k=rAs s a k++rAs s b (k+a.length)
 | [],k=>by simp [rAs]
 | y::r,k=>by
  have e:k+1+r.length=k+(r.length+1):=by omega
  simp [rAs,rAs_append s b r (k+1),e]
theorem mAs_append (b:List RS):∀ (a:List RS),mAs (a++b)=mAs a++mAs b
 | []=>by simp [mAs]
 | y::r=>by simp [mAs,mAs_append b r]
theorem rAs_split {s:Option Addr} {vs:List VS} {j:Nat} {x:VS} (h:vs[j]? =some x):rAs s vs 0=rAs s (vs.take j) 0++(adr s (j * 2)::(vAs x++rAs s (vs.drop (j+1)) (j+1))):=by
 have hj:=(List.getElem?_eq_some_iff.1 h).1
 have e:vs=vs.take j++(x::vs.drop (j+1)):=by
  rw [← (List.getElem?_eq_some_iff.1 h).2,← List.drop_eq_getElem_cons hj,List.take_append_drop]
 have tl:(vs.take j).length=j:=by simp;omega
 have h1:=rAs_append s (x::vs.drop (j+1)) (vs.take j) 0
 rw [← e,tl,Nat.zero_add] at h1
 exact h1
theorem rAs_take {s:Option Addr} {vs:List VS} {j:Nat} {x:VS} (h:vs[j]? =some x):rAs s (vs.take (j+1)) 0=rAs s (vs.take j) 0++(adr s (j * 2)::vAs x):=by
 have hj:=(List.getElem?_eq_some_iff.1 h).1
 have tl:(vs.take j).length=j:=by simp;omega
 rw [List.take_add_one,h,Option.toList_some,rAs_app,tl,Nat.zero_add]
theorem mAs_split {S:List RS} {j:Nat} {x:RS} (h:S[j]? =some x):mAs S=mAs (S.take j)++(rAs x.s x.vs 0++mAs (S.drop (j+1))):=by
 have hj:=(List.getElem?_eq_some_iff.1 h).1
 have e:S=S.take j++(x::S.drop (j+1)):=by
  rw [← (List.getElem?_eq_some_iff.1 h).2,← List.drop_eq_getElem_cons hj,List.take_append_drop]
 have h1:=mAs_append (x::S.drop (j+1)) (S.take j)
 rw [← e] at h1
 exact h1
theorem mAs_take {S:List RS} {j:Nat} {x:RS} (h:S[j]? =some x):mAs (S.take (j+1))=mAs (S.take j)++rAs x.s x.vs 0:=by
 rw [List.take_add_one,h,Option.toList_some,mAs_app]
theorem rAs_long (s:Option Addr):∀ (vs:List VS) (k:Nat),vs.length≤(rAs s vs k).length
 | [],k=>by simp
 | y::r,k=>by have:=rAs_long s r (k+1);simp [rAs];omega
set_option maxHeartbeats 1000000 in
theorem markI_any (x : VS) (lo hi : Nat) (q : Int) (w : World) (hok : x.n = 0 ∨ Somewhere x.s) (hint : ∀ a ∈ vAs x, IntC w lo hi a) (hn : x.n ≤ 2000000) (hq : 0 ≤ q) (hq' : q ≤ 1000000000000000) :
  Calls Tryz.prog 75 #[.slice x.s x.n x.c,.int .i64 q] w fun e w'=>e=.returned (.int .i64 (q+x.n))∧Wrote (vAs x) q w w':=by
 obtain ⟨s,n,c⟩:=x
 have HI:Hid (∀ a∈vAs ⟨s,n,c⟩,IntC w lo hi a):=hint
 clear hint
 simp only at hok hn
 go_enter Tryz.func75,Tryz.ntmps75
 go_wp2
 go_loopw [1,5] (fun a i wr=>∃ k:Nat,k≤n∧i=.int .i64 k∧a=.int .i64 (q+k)∧Wrote (vAs ⟨s,k,c⟩) q w wr) (fun _ i _=>n - (intOf i).toNat)
 case atStart=>exact ⟨0,Nat.zero_le _,rfl,by simp,by simpa [vAs] using Wrote.refl q w⟩
 case round=>
  obtain ⟨k,hk,rfl,rfl,hw⟩:=hrel
  have HW:Hid (Wrote (vAs ⟨s,k,c⟩) q w wr):=hw
  clear hw
  by_cases hlt:k < n
  ·obtain ⟨g,o,rfl⟩:Somewhere s:=by rcases hok with h | h<;>first | omega | exact h
   have hm:(⟨g,o+k,none⟩:Addr)∈vAs ⟨some ⟨g,o,none⟩,n,c⟩:=mem_vAs.2 ⟨k,hlt,rfl⟩
   obtain ⟨⟨z,hz⟩,hf,-,-⟩:=HW.out.intc (HI.out _ hm)
   have b0:(0:Int)≤(k:Int):=by omega
   have b1:(k:Int) < (n:Int):=by omega
   have HZ:Hid (wr.cell? ⟨g,o+k,none⟩=some (.int .i64 z)):=hz
   clear hm
   go_wp2
   go_roundw
   case rel=>
    refine ⟨k+1,by omega,by go_num,by go_num,?_⟩
    have e:vAs ⟨some ⟨g,o,none⟩,k+1,c⟩=vAs ⟨some ⟨g,o,none⟩,k,c⟩++[⟨g,o+k,none⟩]:=by simp [vAs,List.range_succ,adr]
    rw [e]
    refine HW.out.push (fun hm=>?_) (by rw [HZ.out];rfl) (by rw [vAs_len])
    obtain ⟨i,hi',ei⟩:=mem_vAs.1 hm
    simp [adr] at ei
    simp at hi'
    omega
   case measure=>simp [intOf];omega
  ·go_wp2
   go_ret
   have e:k=n:=by omega
   subst e
   exact ⟨rfl,HW.out⟩
set_option maxHeartbeats 1000000 in
theorem heldI_any (x : VS) (q : Int) (w : World) (hok : x.n = 0 ∨ Somewhere x.s) (hint : ∀ i, i < x.n → w.cell? (adr x.s i) = some (.int .i64 (q + i))) (hn : x.n ≤ 2000000) (hq : 0 ≤ q) (hq' : q ≤ 1000000000000000) :
  Calls Tryz.prog 78 #[.slice x.s x.n x.c,.int .i64 q] w fun e w'=>e=.returned (.int .i64 (q+x.n))∧w'=w:=by
 obtain ⟨s,n,c⟩:=x
 have HI:Hid (∀ i,i < n→w.cell? (adr s i)=some (.int .i64 (q+i))):=hint
 clear hint
 simp only at hok hn
 go_enter Tryz.func78,Tryz.ntmps78
 go_wp2
 go_loop [1,5] (fun a i=>∃ k:Nat,k≤n∧i=.int .i64 k∧a=.int .i64 (q+k)) (fun _ i=>n - (intOf i).toNat)
 case atStart=>exact ⟨0,Nat.zero_le _,rfl,by simp⟩
 case round=>
  obtain ⟨k,hk,rfl,rfl⟩:=hrel
  by_cases hlt:k < n
  ·obtain ⟨g,o,rfl⟩:Somewhere s:=by rcases hok with h | h<;>first | omega | exact h
   have c0:w.cell? ⟨g,o+k,none⟩=some (.int .i64 (q+k)):=HI.out k hlt
   have b0:(0:Int)≤(k:Int):=by omega
   have b1:(k:Int) < (n:Int):=by omega
   go_wp2
   go_round
   case rel=>exact ⟨k+1,by omega,by go_num,by go_num⟩
   case measure=>simp [intOf];omega
  ·go_wp2
   go_ret
   have e:k=n:=by omega
   subst e
   exact ⟨rfl,rfl⟩
set_option maxHeartbeats 1000000 in
theorem markR_any (s : Option Addr) (vs : List VS) (c lo hi : Nat) (q : Int) (w : World) (h : ShR w lo hi s vs) (hn : (rAs s vs 0).length ≤ 2000000) (hq : 0 ≤ q) (hq' : q ≤ 100000000000000) :
  Calls Tryz.prog 104 #[.slice s vs.length c,.int .i64 q] w fun e w'=>e=.returned (.int .i64 (q+(rAs s vs 0).length))∧Wrote (rAs s vs 0) q w w':=by
 have hvl:=rAs_long s vs 0
 have H:Hid (ShR w lo hi s vs):=h
 have HN:Hid ((rAs s vs 0).length≤2000000):=hn
 clear h
 go_enter Tryz.func104,Tryz.ntmps104
 go_wp2
 go_loopw [1,5] (fun a i wr=>∃ (j:Nat) (z:Int),j≤vs.length∧i=.int .i64 j∧a=.int .i64 z∧0≤z∧z≤200000000000000∧Hid (z=q+(rAs s (vs.take j) 0).length)∧Wrote (rAs s (vs.take j) 0) q w wr) (fun _ i _=>vs.length - (intOf i).toNat)
 case atStart=>exact ⟨0,q,Nat.zero_le _,rfl,rfl,hq,by omega,show _=_ by simp [rAs],by simpa [rAs] using Wrote.refl q w⟩
 case round=>
  obtain ⟨j,z,hj,rfl,rfl,hz0,hz1,HZ,hw⟩:=hrel
  have HW:Hid (Wrote (rAs s (vs.take j) 0) q w wr):=hw
  clear hw
  by_cases hlt:j < vs.length
  ·obtain ⟨x,hx⟩:∃ x,vs[j]? =some x:=⟨_,List.getElem?_eq_getElem hlt⟩
   obtain ⟨g,o,rfl⟩:Somewhere s:=by rcases H.out.rok with h | h<;>first | (rw [h] at hlt;simp at hlt) | exact h
   have sp:=rAs_split (s:=some ⟨g,o,none⟩) hx
   have hA:∀ a∈rAs (some ⟨g,o,none⟩) (vs.take j) 0,∃ z,w.cell? a=some (.int .i64 z):=fun a ha=>(H.out.int a (by rw [sp];simp [ha])).1
   have nod:=H.out.nod
   rw [sp] at nod
   have hs1:=HW.out.shr hA H.out
   have m1:(⟨g,o+j * 2,none⟩:Addr)∈rAs (some ⟨g,o,none⟩) vs 0:=by rw [sp];simp [adr]
   obtain ⟨⟨z0,c0⟩,f0,-,-⟩:=hs1.int _ m1
   have c1:wr.cell? ⟨g,o+j * 2+1,none⟩=some (.slice x.s x.n x.c):=(hs1.vie j x hx).1
   have d1:(⟨g,o+j * 2,none⟩:Addr)∉rAs (some ⟨g,o,none⟩) (vs.take j) 0:=fun hm=>(List.nodup_append.1 nod).2.2 _ hm _ (by simp [adr]) rfl
   have d2:∀ a∈rAs (some ⟨g,o,none⟩) (vs.take j) 0++[⟨g,o+j * 2,none⟩],a∉vAs x:=fun a ha hm=>by
    rcases List.mem_append.1 ha with ha | ha
    ·exact (List.nodup_append.1 nod).2.2 _ ha _ (by simp [hm]) rfl
    ·simp at ha
     subst ha
     have:=(List.nodup_cons.1 (List.nodup_append.1 nod).2.1).1
     exact this (by simp [adr] at hm ⊢;exact .inl hm)
   have W1:Hid (Wrote (rAs (some ⟨g,o,none⟩) (vs.take j) 0++[⟨g,o+j * 2,none⟩]) q w (wr.setCell ⟨g,o+j * 2,none⟩ (.int .i64 z))):=HW.out.push d1 (by rw [c0];rfl) HZ.out
   have hA1:∀ a∈rAs (some ⟨g,o,none⟩) (vs.take j) 0++[⟨g,o+j * 2,none⟩],∃ z,w.cell? a=some (.int .i64 z):=fun a ha=>by
    rcases List.mem_append.1 ha with ha | ha
    ·exact hA a ha
    ·simp at ha
     subst ha
     exact (H.out.int _ m1).1
   have S2:Hid (ShR (wr.setCell ⟨g,o+j * 2,none⟩ (.int .i64 z)) lo hi (some ⟨g,o,none⟩) vs):=W1.out.shr hA1 H.out
   have XO:Hid (x.n=0∨Somewhere x.s):=H.out.vok j x hx
   have XI:Hid (∀ a∈vAs x,IntC (wr.setCell ⟨g,o+j * 2,none⟩ (.int .i64 z)) lo hi a):=fun a ha=>S2.out.int a (by rw [sp];simp [ha])
   have xn:x.n≤2000000:=by have:=HN.out;rw [sp] at this;simp [vAs_len] at this;omega
   have D2:Hid (∀ a∈rAs (some ⟨g,o,none⟩) (vs.take j) 0++[⟨g,o+j * 2,none⟩],a∉vAs x):=d2
   have TK:Hid (rAs (some ⟨g,o,none⟩) (vs.take (j+1)) 0=rAs (some ⟨g,o,none⟩) (vs.take j) 0++((⟨g,o+j * 2,none⟩:Addr)::vAs x)):=rAs_take hx
   have HB:Hid ((rAs (some ⟨g,o,none⟩) (vs.take j) 0).length+1+x.n≤2000000):=by
    have:=HN.out
    rw [sp] at this
    simp [vAs_len] at this
    show _≤_
    omega
   have b0:(0:Int)≤(j:Int):=by omega
   have b1:(j:Int) < (vs.length:Int):=by omega
   clear sp hA nod hs1 m1 d1 d2 hA1 hx
   go_wp2_with fail
   refine (markI_any x lo hi (z+1) _ XO.out XI.out xn (by omega) (by omega)).mono ?_
   rintro e w2 ⟨rfl,hw2⟩
   have W2:Hid (Wrote (rAs (some ⟨g,o,none⟩) (vs.take (j+1)) 0) q w w2):=by
    have e1:q+((rAs (some ⟨g,o,none⟩) (vs.take j) 0++[(⟨g,o+j * 2,none⟩:Addr)]).length:Int)=z+1:=by rw [HZ.out];simp;omega
    have:=W1.out.app (by rw [e1];exact hw2) D2.out
    show Wrote _ _ _ _
    rw [TK.out]
    simpa using this
   have zz:0≤z+1+(x.n:Int)∧z+1+(x.n:Int)≤200000000000000:=by have h1:=HZ.out;have h2:=HB.out;omega
   have ZZ:Hid (z+1+(x.n:Int)=q+(rAs (some ⟨g,o,none⟩) (vs.take (j+1)) 0).length):=by
    show _=_
    rw [TK.out,HZ.out]
    simp [vAs_len]
    omega
   clear hw2
   go_wp2
   go_roundw
   case rel=>exact ⟨j+1,_,by omega,by go_num,rfl,zz.1,zz.2,ZZ.out,W2.out⟩
   case measure=>simp [intOf];omega
  ·go_wp2
   go_ret
   have e:j=vs.length:=by omega
   subst e
   have h1:=HW.out
   have h2:=HZ.out
   rw [List.take_length] at h1 h2
   exact ⟨by rw [h2];rfl,h1⟩
def MarkedA (w:World) (A:List Addr) (q:Int):Prop:=∀ (p:Nat) (a:Addr),A[p]? =some a→w.cell? a=some (.int .i64 (q+p))
set_option maxHeartbeats 1000000 in
theorem heldR_any (s : Option Addr) (vs : List VS) (c lo hi : Nat) (q : Int) (w : World) (h : ShR w lo hi s vs) (hm : MarkedA w (rAs s vs 0) q) (hn : (rAs s vs 0).length ≤ 2000000) (hq : 0 ≤ q) (hq' : q ≤ 100000000000000) :
  Calls Tryz.prog 105 #[.slice s vs.length c,.int .i64 q] w fun e w'=>e=.returned (.int .i64 (q+(rAs s vs 0).length))∧w'=w:=by
 have hvl:=rAs_long s vs 0
 have H:Hid (ShR w lo hi s vs):=h
 have HM:Hid (MarkedA w (rAs s vs 0) q):=hm
 have HN:Hid ((rAs s vs 0).length≤2000000):=hn
 clear h hm
 go_enter Tryz.func105,Tryz.ntmps105
 go_wp2
 go_loop [1,5] (fun a i=>∃ (j:Nat) (z:Int),j≤vs.length∧i=.int .i64 j∧a=.int .i64 z∧0≤z∧z≤200000000000000∧Hid (z=q+(rAs s (vs.take j) 0).length)) (fun _ i=>vs.length - (intOf i).toNat)
 case atStart=>exact ⟨0,q,Nat.zero_le _,rfl,rfl,hq,by omega,show _=_ by simp [rAs]⟩
 case round=>
  obtain ⟨j,z,hj,rfl,rfl,hz0,hz1,HZ⟩:=hrel
  by_cases hlt:j < vs.length
  ·obtain ⟨x,hx⟩:∃ x,vs[j]? =some x:=⟨_,List.getElem?_eq_getElem hlt⟩
   obtain ⟨g,o,rfl⟩:Somewhere s:=by rcases H.out.rok with h | h<;>first | (rw [h] at hlt;simp at hlt) | exact h
   have sp:=rAs_split (s:=some ⟨g,o,none⟩) hx
   have c0:w.cell? ⟨g,o+j * 2,none⟩=some (.int .i64 z):=by
    have:=HM.out (rAs (some ⟨g,o,none⟩) (vs.take j) 0).length ⟨g,o+j * 2,none⟩ (by rw [sp,List.getElem?_append_right (Nat.le_refl _)];simp [adr])
    rw [this,HZ.out]
   have c1:w.cell? ⟨g,o+j * 2+1,none⟩=some (.slice x.s x.n x.c):=(H.out.vie j x hx).1
   have XO:Hid (x.n=0∨Somewhere x.s):=H.out.vok j x hx
   have XI:Hid (∀ i,i < x.n→w.cell? (adr x.s i)=some (.int .i64 (z+1+i))):=fun i hi'=>by
    have:=HM.out ((rAs (some ⟨g,o,none⟩) (vs.take j) 0).length+(1+i)) (adr x.s i) (by
     rw [sp,List.getElem?_append_right (by omega)]
     have e:(rAs (some ⟨g,o,none⟩) (vs.take j) 0).length+(1+i) - (rAs (some ⟨g,o,none⟩) (vs.take j) 0).length=i+1:=by omega
     rw [e,List.getElem?_cons_succ,List.getElem?_append_left (by rw [vAs_len];exact hi')]
     exact vAs_at hi')
    rw [this,HZ.out]
    congr 2
    omega
   have xn:x.n≤2000000:=by have:=HN.out;rw [sp] at this;simp [vAs_len] at this;omega
   have TK:Hid (rAs (some ⟨g,o,none⟩) (vs.take (j+1)) 0=rAs (some ⟨g,o,none⟩) (vs.take j) 0++((⟨g,o+j * 2,none⟩:Addr)::vAs x)):=rAs_take hx
   have HB:Hid ((rAs (some ⟨g,o,none⟩) (vs.take j) 0).length+1+x.n≤2000000):=by
    have:=HN.out
    rw [sp] at this
    simp [vAs_len] at this
    show _≤_
    omega
   have b0:(0:Int)≤(j:Int):=by omega
   have b1:(j:Int) < (vs.length:Int):=by omega
   have hzz:(z !=z)=false:=by simp
   clear sp hx
   go_wp2_with fail
   refine (heldI_any x (z+1) w XO.out XI.out xn (by omega) (by omega)).mono ?_
   rintro e w9 ⟨rfl,hw9⟩
   subst w9
   have zz:0≤z+1+(x.n:Int)∧z+1+(x.n:Int)≤200000000000000:=by have h1:=HZ.out;have h2:=HB.out;omega
   have zn:¬ z+1+(x.n:Int) < 0:=by omega
   have ZZ:Hid (z+1+(x.n:Int)=q+(rAs (some ⟨g,o,none⟩) (vs.take (j+1)) 0).length):=by
    show _=_
    rw [TK.out,HZ.out]
    simp [vAs_len]
    omega
   go_wp2
   go_round
   case rel=>exact ⟨j+1,_,by omega,by go_num,rfl,zz.1,zz.2,ZZ.out⟩
   case measure=>simp [intOf];omega
  ·go_wp2
   go_ret
   have e:j=vs.length:=by omega
   subst e
   have h2:=HZ.out
   rw [List.take_length] at h2
   exact ⟨by rw [h2];rfl,rfl⟩
theorem mAs_long:∀ (S:List RS) (j:Nat) (x:RS),S[j]? =some x→(mAs (S.take j)).length+(rAs x.s x.vs 0).length≤(mAs S).length:=fun S j x h=>by
 rw [mAs_split h]
 simp
set_option maxHeartbeats 1000000 in
theorem markRs_any (so : Option Addr) (S : List RS) (c lo hi : Nat) (q : Int) (w : World) (h : Sh w lo hi so S) (hs : S.length ≤ 2000000) (hn : (mAs S).length ≤ 2000000) (hq : 0 ≤ q) (hq' : q ≤ 10000000000000) :
  Calls Tryz.prog 76 #[.slice so S.length c,.int .i64 q] w fun e w'=>e=.returned (.int .i64 (q+(mAs S).length))∧Wrote (mAs S) q w w':=by
 have H:Hid (Sh w lo hi so S):=h
 have HN:Hid ((mAs S).length≤2000000):=hn
 clear h
 go_enter Tryz.func76,Tryz.ntmps76
 go_wp2
 go_loopw [1,5] (fun a i wr=>∃ (j:Nat) (z:Int),j≤S.length∧i=.int .i64 j∧a=.int .i64 z∧0≤z∧z≤20000000000000∧Hid (z=q+(mAs (S.take j)).length)∧Wrote (mAs (S.take j)) q w wr) (fun _ i _=>S.length - (intOf i).toNat)
 case atStart=>exact ⟨0,q,Nat.zero_le _,rfl,rfl,hq,by omega,show _=_ by simp [mAs],by simpa [mAs] using Wrote.refl q w⟩
 case round=>
  obtain ⟨j,z,hj,rfl,rfl,hz0,hz1,HZ,hw⟩:=hrel
  have HW:Hid (Wrote (mAs (S.take j)) q w wr):=hw
  clear hw
  by_cases hlt:j < S.length
  ·obtain ⟨x,hx⟩:∃ x,S[j]? =some x:=⟨_,List.getElem?_eq_getElem hlt⟩
   obtain ⟨g,o,rfl⟩:Somewhere so:=by rcases H.out.top with h | h<;>first | (rw [h] at hlt;simp at hlt) | exact h
   have sp:=mAs_split hx
   have hA:∀ a∈mAs (S.take j),∃ z,w.cell? a=some (.int .i64 z):=fun a ha=>(H.out.int a (by rw [sp];simp [ha])).1
   have hs1:=HW.out.sh hA H.out
   have c1:wr.cell? ⟨g,o+j,none⟩=some (.slice x.s x.vs.length x.c):=(hs1.row j x hx).1
   have SR:Hid (ShR wr lo hi x.s x.vs):=hs1.r j x hx
   have D2:Hid (∀ a∈mAs (S.take j),a∉rAs x.s x.vs 0):=fun a ha hm=>by
    have nod:=H.out.nod
    rw [sp] at nod
    exact (List.nodup_append.1 nod).2.2 _ ha _ (by simp [hm]) rfl
   have TK:Hid (mAs (S.take (j+1))=mAs (S.take j)++rAs x.s x.vs 0):=mAs_take hx
   have HB:Hid ((mAs (S.take j)).length+(rAs x.s x.vs 0).length≤2000000):=by have h1:=mAs_long S j x hx;have h2:=HN.out;show _≤_;omega
   have xn:(rAs x.s x.vs 0).length≤2000000:=by have:=HB.out;omega
   have b0:(0:Int)≤(j:Int):=by omega
   have b1:(j:Int) < (S.length:Int):=by omega
   clear sp hA hs1 hx
   go_wp2_with fail
   refine (markR_any x.s x.vs x.c lo hi z wr SR.out xn hz0 (by omega)).mono ?_
   rintro e w2 ⟨rfl,hw2⟩
   have W2:Hid (Wrote (mAs (S.take (j+1))) q w w2):=by
    show Wrote _ _ _ _
    rw [TK.out]
    exact HW.out.app (by rw [← HZ.out];exact hw2) D2.out
   have zz:0≤z+((rAs x.s x.vs 0).length:Int)∧z+((rAs x.s x.vs 0).length:Int)≤20000000000000:=by have h1:=HZ.out;have h2:=HB.out;omega
   have ZZ:Hid (z+((rAs x.s x.vs 0).length:Int)=q+(mAs (S.take (j+1))).length):=by
    show _=_
    rw [TK.out,HZ.out]
    simp
    omega
   clear hw2
   go_wp2
   go_roundw
   case rel=>exact ⟨j+1,_,by omega,by go_num,rfl,zz.1,zz.2,ZZ.out,W2.out⟩
   case measure=>simp [intOf];omega
  ·go_wp2
   go_ret
   have e:j=S.length:=by omega
   subst e
   have h1:=HW.out
   have h2:=HZ.out
   rw [List.take_length] at h1 h2
   exact ⟨by rw [h2];rfl,h1⟩
set_option maxHeartbeats 1000000 in
theorem heldRs_any (so : Option Addr) (S : List RS) (c lo hi : Nat) (q : Int) (w : World) (h : Sh w lo hi so S) (hm : MarkedA w (mAs S) q) (hs : S.length ≤ 2000000) (hn : (mAs S).length ≤ 2000000) (hq : 0 ≤ q) (hq' : q ≤ 10000000000000) :
  Calls Tryz.prog 79 #[.slice so S.length c,.int .i64 q] w fun e w'=>e=.returned (.int .i64 (q+(mAs S).length))∧w'=w:=by
 have H:Hid (Sh w lo hi so S):=h
 have HM:Hid (MarkedA w (mAs S) q):=hm
 have HN:Hid ((mAs S).length≤2000000):=hn
 clear h hm
 go_enter Tryz.func79,Tryz.ntmps79
 go_wp2
 go_loop [1,5] (fun a i=>∃ (j:Nat) (z:Int),j≤S.length∧i=.int .i64 j∧a=.int .i64 z∧0≤z∧z≤20000000000000∧Hid (z=q+(mAs (S.take j)).length)) (fun _ i=>S.length - (intOf i).toNat)
 case atStart=>exact ⟨0,q,Nat.zero_le _,rfl,rfl,hq,by omega,show _=_ by simp [mAs]⟩
 case round=>
  obtain ⟨j,z,hj,rfl,rfl,hz0,hz1,HZ⟩:=hrel
  by_cases hlt:j < S.length
  ·obtain ⟨x,hx⟩:∃ x,S[j]? =some x:=⟨_,List.getElem?_eq_getElem hlt⟩
   obtain ⟨g,o,rfl⟩:Somewhere so:=by rcases H.out.top with h | h<;>first | (rw [h] at hlt;simp at hlt) | exact h
   have sp:=mAs_split hx
   have c1:w.cell? ⟨g,o+j,none⟩=some (.slice x.s x.vs.length x.c):=(H.out.row j x hx).1
   have SR:Hid (ShR w lo hi x.s x.vs):=H.out.r j x hx
   have MR:Hid (MarkedA w (rAs x.s x.vs 0) z):=fun p a ha=>by
    have hp:=(List.getElem?_eq_some_iff.1 ha).1
    have:=HM.out ((mAs (S.take j)).length+p) a (by
     rw [sp,List.getElem?_append_right (by omega)]
     have e:(mAs (S.take j)).length+p - (mAs (S.take j)).length=p:=by omega
     rw [e,List.getElem?_append_left hp]
     exact ha)
    rw [this,HZ.out]
    congr 2
    omega
   have TK:Hid (mAs (S.take (j+1))=mAs (S.take j)++rAs x.s x.vs 0):=mAs_take hx
   have HB:Hid ((mAs (S.take j)).length+(rAs x.s x.vs 0).length≤2000000):=by have h1:=mAs_long S j x hx;have h2:=HN.out;show _≤_;omega
   have xn:(rAs x.s x.vs 0).length≤2000000:=by have:=HB.out;omega
   have b0:(0:Int)≤(j:Int):=by omega
   have b1:(j:Int) < (S.length:Int):=by omega
   clear sp hx
   go_wp2_with fail
   refine (heldR_any x.s x.vs x.c lo hi z w SR.out MR.out xn hz0 (by omega)).mono ?_
   rintro e w9 ⟨rfl,hw9⟩
   subst w9
   have zz:0≤z+((rAs x.s x.vs 0).length:Int)∧z+((rAs x.s x.vs 0).length:Int)≤20000000000000:=by have h1:=HZ.out;have h2:=HB.out;omega
   have zn:¬ z+((rAs x.s x.vs 0).length:Int) < 0:=by omega
   have ZZ:Hid (z+((rAs x.s x.vs 0).length:Int)=q+(mAs (S.take (j+1))).length):=by
    show _=_
    rw [TK.out,HZ.out]
    simp
    omega
   go_wp2
   go_round
   case rel=>exact ⟨j+1,_,by omega,by go_num,rfl,zz.1,zz.2,ZZ.out⟩
   case measure=>simp [intOf];omega
  ·go_wp2
   go_ret
   have e:j=S.length:=by omega
   subst e
   have h2:=HZ.out
   rw [List.take_length] at h2
   exact ⟨by rw [h2];rfl,rfl⟩
theorem rAs_sz {w:World} {lo hi:Nat} (s:Option Addr):∀ (vs:List VS) (l:List WD) (k:Nat),vs.length=l.length→(∀ (i:Nat) (x:VS) (y:WD),vs[i]? =some x→l[i]? =some y→VO w lo hi x y.vw)→(rAs s vs k).length=l.length+szV l
 | [],[],k,_,_=>by simp [rAs,szV]
 | x::r,y::t,k,h,hv=>by
  have h1:=rAs_sz s r t (k+1) (by simpa using h) (fun i a b ha hb=>hv (i+1) a b (by simpa using ha) (by simpa using hb))
  have h2:=(hv 0 x y rfl rfl).n
  simp [rAs,szV,vAs_len,h1,h2]
  omega
 | [],y::t,k,h,_=>by simp at h
 | x::r,[],k,h,_=>by simp at h
theorem RO.shr {w:World} {lo hi:Nat} {r:RS} {l:List WD} (h:RO w lo hi r l):ShR w lo hi r.s r.vs:=by
 have at1:∀ (k:Nat) (x:VS),r.vs[k]? =some x→∃ y,l[k]? =some y:=fun k x hx=>at_same h.n.symm hx
 refine ⟨?_,fun k x hx=>?_,fun k x hx=>?_,fun a ha=>?_,h.d⟩
 ·rcases h.c with h0 | ⟨g,o,e,-⟩
  ·have:=h.n;rw [h0] at this;exact .inl (List.length_eq_zero_iff.1 (by simpa using this))
  ·exact .inr ⟨g,o,e⟩
 ·obtain ⟨y,hy⟩:=at1 k x hx
  rcases h.c with h0 | ⟨g,o,e,b1,b2,hc⟩
  ·rw [h0] at hy;simp at hy
  ·rw [e];exact ⟨(hc k x y hx hy).2.2,b1,b2⟩
 ·obtain ⟨y,hy⟩:=at1 k x hx
  have hv:=h.v k x y hx hy
  rcases hv.c with h0 | ⟨g,o,e,-⟩
  ·exact .inl (by rw [hv.n,h0];rfl)
  ·exact .inr ⟨g,o,e⟩
 ·have hb:=h.blk ha
  rcases mem_rAs.1 ha with ⟨i,hi',rfl⟩ | ⟨x,hx,hax⟩
  ·obtain ⟨x,hx⟩:∃ x,r.vs[i]? =some x:=⟨_,List.getElem?_eq_getElem hi'⟩
   obtain ⟨y,hy⟩:=at1 i x hx
   rcases h.c with h0 | ⟨g,o,e,b1,b2,hc⟩
   ·rw [h0] at hy;simp at hy
   ·obtain ⟨c1,c2,-⟩:=hc i x y hx hy
    rw [Nat.zero_add,e] at hb ⊢
    exact ⟨⟨_,c1⟩,c2,hb.1,hb.2⟩
  ·obtain ⟨i,hi',e⟩:=List.getElem_of_mem hx
   have hx':r.vs[i]? =some x:=by rw [List.getElem?_eq_getElem hi',e]
   obtain ⟨y,hy⟩:=at1 i x hx'
   have hv:=h.v i x y hx' hy
   obtain ⟨j,hj,rfl⟩:=mem_vAs.1 hax
   rcases hv.c with h0 | ⟨g,o,e,b1,b2,hc⟩
   ·have:=hv.n;rw [h0] at this;simp at this;omega
   ·obtain ⟨c1,c2⟩:=hc j (by rw [← hv.n];exact hj)
    rw [e] at hb ⊢
    exact ⟨⟨_,c1⟩,c2,hb.1,hb.2⟩
theorem MO.sh {w:World} {lo hi:Nat} {so:Option Addr} {S:List RS} {m:List (List WD)} (h:MO w lo hi so S m):Sh w lo hi so S:=by
 refine ⟨?_,fun k x hx=>?_,fun i r hr=>?_,h.d⟩
 ·rcases h.c with h0 | ⟨g,o,e,-⟩
  ·have:=h.n;rw [h0] at this;exact .inl (List.length_eq_zero_iff.1 (by simpa using this))
  ·exact .inr ⟨g,o,e⟩
 ·rcases h.c with h0 | ⟨g,o,e,b1,b2,hc⟩
  ·have:=h.n;rw [h0] at this;have e9:S=[]:=List.length_eq_zero_iff.1 (by simpa using this);rw [e9] at hx;simp at hx
  ·rw [e];exact ⟨hc k x hx,b1,b2⟩
 ·obtain ⟨l,hl⟩:=at_same h.n.symm hr
  exact (h.r i r l hr hl).shr
theorem mAs_sz {w:World} {lo hi:Nat}:∀ (S:List RS) (m:List (List WD)),S.length=m.length→(∀ (i:Nat) (r:RS) (l:List WD),S[i]? =some r→m[i]? =some l→RO w lo hi r l)→(mAs S).length=szR m
 | [],[],_,_=>by simp [mAs,szR]
 | x::r,y::t,h,hv=>by
  have h1:=mAs_sz r t (by simpa using h) (fun i a b ha hb=>hv (i+1) a b (by simpa using ha) (by simpa using hb))
  have h2:=hv 0 x y rfl rfl
  have h3:=rAs_sz (w:=w) (lo:=lo) (hi:=hi) x.s x.vs y 0 h2.n h2.v
  simp [mAs,szR,h1,h3]
 | [],y::t,h,_=>by simp at h
 | x::r,[],h,_=>by simp at h
theorem MO.sz {w:World} {lo hi:Nat} {so:Option Addr} {S:List RS} {m:List (List WD)} (h:MO w lo hi so S m):(mAs S).length=szR m:=mAs_sz S m h.n h.r
end
end Go.Proofs.YtlbeploopclegaaGreat
