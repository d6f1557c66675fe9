/- Rows of notes as they lie in memory, and how the laws count, copy and compare them. Conditions: each list of at most 1048576. Machines as they lie in memory: rows of code, of cores, a memory, notes; how great they are. No condition. Memories written over with running numbers, place by place, and looked at again. Conditions: fewer than 2^20 + 101 integers. Rows of records, each of integers and of rows of integers, as they lie in memory with the places of their integers; how marks go over them. No condition. -/
import Derived.Test.YtlbeploopclegaaGreatQG00
import Derived.Test.YtlbeploopclegaaGreatQG01
import Derived.Deep.RegionWith
namespace Go.Proofs.YtlbeploopclegaaGreat
section
set_option linter.unusedSimpArgs false
set_option linter.unusedVariables false
set_option maxRecDepth 100000
open Go.RowKit
structure ND where
 who:Int
 v:Int
def NtR (w:World) (g off:Nat) (n:ND):Prop:=w.cell? ⟨g,off,none⟩=some (.int .i64 n.who)∧w.cell? ⟨g,off+1,none⟩=some (.int .i64 n.v)
def NtsR (w:World) (lo hi:Nat) (s:Option Addr) (l:List ND):Prop:=
 l=[]∨∃ g off,s=some ⟨g,off,none⟩∧lo≤g∧g < hi∧∀ (i:Nat) (n:ND),l[i]? =some n→NtR w g (off+i * 2) n
theorem NtsR.keep {w w':World} {lo hi:Nat} {s:Option Addr} {l:List ND} (h:NtsR w lo hi s l) (hb:Keep lo hi w w'):NtsR w' lo hi s l:=by
 rcases h with h | ⟨g,o,hs,h1,h2,hc⟩
 ·exact .inl h
 ·exact .inr ⟨g,o,hs,h1,h2,fun i r hi=>⟨(hb.cell h1 h2).trans (hc i r hi).1,(hb.cell h1 h2).trans (hc i r hi).2⟩⟩
theorem NtsR.mono {w:World} {lo hi lo' hi':Nat} {s:Option Addr} {l:List ND} (h:NtsR w lo hi s l) (h1:lo'≤lo) (h2:hi≤hi'):NtsR w lo' hi' s l:=by
 rcases h with h | ⟨g,o,hs,a,b,hc⟩
 ·exact .inl h
 ·exact .inr ⟨g,o,hs,by omega,by omega,hc⟩
def flatN:List ND→List Value
 | []=>[]
 | x::t=>[.int .i64 x.who,.int .i64 x.v]++flatN t
theorem flatN_len:∀ L:List ND,(flatN L).length=L.length * 2
 | []=>rfl
 | x::t=>by simp [flatN,flatN_len t];omega
theorem flatN_app:∀ (a b:List ND),flatN (a++b)=flatN a++flatN b
 | [],b=>rfl
 | x::r,b=>by simp [flatN,flatN_app r b]
theorem flatN_at:∀ (L:List ND) (i:Nat) (x:ND),L[i]? =some x→(flatN L)[i * 2]? =some (.int .i64 x.who)∧(flatN L)[i * 2+1]? =some (.int .i64 x.v)
 | [],i,x,h=>by simp at h
 | y::r,0,x,h=>by
  simp at h
  subst h
  exact ⟨rfl,rfl⟩
 | y::r,i+1,x,h=>by
  have h':r[i]? =some x:=by simpa using h
  have e:=flatN_at r i x h'
  have e0:(i+1) * 2=i * 2+2:=by omega
  rw [e0]
  exact e
def OwnD (w:World) (base:Nat) (v:Value) (l:List ND):Prop:=w.ownsRow base 105 2 v l.length (flatN l)
end
section
set_option linter.unusedSimpArgs false
set_option linter.unusedVariables false
set_option maxRecDepth 100000
open Go.RowKit
def InsR (w:World) (lo hi:Nat) (s:Option Addr) (l:List I5):Prop:=
 l=[]∨∃ g off,s=some ⟨g,off,none⟩∧lo≤g∧g < hi∧∀ i,i < l.length→At5 w g (off+i * 5) (l.getD i z5)
theorem At5.of_keep {w w':World} {lo hi g off:Nat} {x:I5} (h:At5 w g off x) (hb:Keep lo hi w w') (h1:lo≤g) (h2:g < hi):At5 w' g off x:=
 ⟨(hb.cell h1 h2).trans h.1,(hb.cell h1 h2).trans h.2.1,(hb.cell h1 h2).trans h.2.2.1,(hb.cell h1 h2).trans h.2.2.2.1,(hb.cell h1 h2).trans h.2.2.2.2⟩
theorem InsR.keep {w w':World} {lo hi:Nat} {s:Option Addr} {l:List I5} (h:InsR w lo hi s l) (hb:Keep lo hi w w'):InsR w' lo hi s l:=by
 rcases h with h | ⟨g,o,hs,h1,h2,hc⟩
 ·exact .inl h
 ·exact .inr ⟨g,o,hs,h1,h2,fun i hi=>(hc i hi).of_keep hb h1 h2⟩
theorem InsR.mono {w:World} {lo hi lo' hi':Nat} {s:Option Addr} {l:List I5} (h:InsR w lo hi s l) (h1:lo'≤lo) (h2:hi≤hi'):InsR w lo' hi' s l:=by
 rcases h with h | ⟨g,o,hs,a,b,hc⟩
 ·exact .inl h
 ·exact .inr ⟨g,o,hs,by omega,by omega,hc⟩
theorem InsR.insB {w:World} {lo hi:Nat} {s:Option Addr} {l:List I5} (h:InsR w lo hi s l):InsB w hi s l:=by
 rcases h with h | ⟨g,o,hs,a,b,hc⟩
 ·exact .inl h
 ·exact .inr ⟨g,o,hs,b,hc⟩
def CR (w:World) (lo hi g off:Nat) (l:List I5):Prop:=∃ s c,w.cell? ⟨g,off,none⟩=some (.slice s l.length c)∧InsR w lo hi s l
def CsR (w:World) (lo hi:Nat) (s:Option Addr) (l:List (List I5)):Prop:=
 l=[]∨∃ g off,s=some ⟨g,off,none⟩∧lo≤g∧g < hi∧∀ (i:Nat) (x:List I5),l[i]? =some x→CR w lo hi g (off+i) x
structure KD where
 pc:Int
 regs:List Int
 vw:List Int
 st:Int
def KR (w:World) (lo hi g off:Nat) (k:KD):Prop:=
 ∃ s c s' c',w.cell? ⟨g,off,none⟩=some (.int .i64 k.pc)∧w.cell? ⟨g,off+1,none⟩=some (.slice s k.regs.length c)∧w.cell? ⟨g,off+2,none⟩=some (.slice s' k.vw.length c')∧w.cell? ⟨g,off+3,none⟩=some (.int .i64 k.st)∧IntsR w lo hi s k.regs∧IntsR w lo hi s' k.vw
def KsR (w:World) (lo hi:Nat) (s:Option Addr) (l:List KD):Prop:=
 l=[]∨∃ g off,s=some ⟨g,off,none⟩∧lo≤g∧g < hi∧∀ (i:Nat) (k:KD),l[i]? =some k→KR w lo hi g (off+i * 4) k
structure MD where
 codes:List (List I5)
 cores:List KD
 mem:List (List WD)
 tr:List ND
def MaR (w:World) (lo hi:Nat) (s1 s2 s3 s4:Option Addr) (d:MD):Prop:=CsR w lo hi s1 d.codes∧KsR w lo hi s2 d.cores∧MemR w lo hi s3 d.mem∧NtsR w lo hi s4 d.tr
theorem CR.keep {w w':World} {lo hi g off:Nat} {l:List I5} (h:CR w lo hi g off l) (hb:Keep lo hi w w') (hc:∀ j,w'.cell? ⟨g,j,none⟩=w.cell? ⟨g,j,none⟩):CR w' lo hi g off l:=by
 obtain ⟨s,c,h1,h2⟩:=h
 exact ⟨s,c,(hc _).trans h1,h2.keep hb⟩
theorem CR.mono {w:World} {lo hi lo' hi' g off:Nat} {l:List I5} (h:CR w lo hi g off l) (p:lo'≤lo) (q:hi≤hi'):CR w lo' hi' g off l:=by
 obtain ⟨s,c,h1,h2⟩:=h
 exact ⟨s,c,h1,h2.mono p q⟩
theorem KR.keep {w w':World} {lo hi g off:Nat} {k:KD} (h:KR w lo hi g off k) (hb:Keep lo hi w w') (hc:∀ j,w'.cell? ⟨g,j,none⟩=w.cell? ⟨g,j,none⟩):KR w' lo hi g off k:=by
 obtain ⟨s,c,s',c',h1,h2,h3,h4,h5,h6⟩:=h
 exact ⟨s,c,s',c',(hc _).trans h1,(hc _).trans h2,(hc _).trans h3,(hc _).trans h4,h5.keep hb,h6.keep hb⟩
theorem KR.mono {w:World} {lo hi lo' hi' g off:Nat} {k:KD} (h:KR w lo hi g off k) (p:lo'≤lo) (q:hi≤hi'):KR w lo' hi' g off k:=by
 obtain ⟨s,c,s',c',h1,h2,h3,h4,h5,h6⟩:=h
 exact ⟨s,c,s',c',h1,h2,h3,h4,h5.mono p q,h6.mono p q⟩
theorem CsR.keep {w w':World} {lo hi:Nat} {s:Option Addr} {l:List (List I5)} (h:CsR w lo hi s l) (hb:Keep lo hi w w'):CsR w' lo hi s l:=by
 rcases h with h | ⟨g,o,hs,h1,h2,hc⟩
 ·exact .inl h
 ·exact .inr ⟨g,o,hs,h1,h2,fun i r hi=>(hc i r hi).keep hb (fun j=>hb.cell h1 h2)⟩
theorem CsR.mono {w:World} {lo hi lo' hi':Nat} {s:Option Addr} {l:List (List I5)} (h:CsR w lo hi s l) (p:lo'≤lo) (q:hi≤hi'):CsR w lo' hi' s l:=by
 rcases h with h | ⟨g,o,hs,h1,h2,hc⟩
 ·exact .inl h
 ·exact .inr ⟨g,o,hs,by omega,by omega,fun i r hi=>(hc i r hi).mono p q⟩
theorem KsR.keep {w w':World} {lo hi:Nat} {s:Option Addr} {l:List (KD)} (h:KsR w lo hi s l) (hb:Keep lo hi w w'):KsR w' lo hi s l:=by
 rcases h with h | ⟨g,o,hs,h1,h2,hc⟩
 ·exact .inl h
 ·exact .inr ⟨g,o,hs,h1,h2,fun i r hi=>(hc i r hi).keep hb (fun j=>hb.cell h1 h2)⟩
theorem KsR.mono {w:World} {lo hi lo' hi':Nat} {s:Option Addr} {l:List (KD)} (h:KsR w lo hi s l) (p:lo'≤lo) (q:hi≤hi'):KsR w lo' hi' s l:=by
 rcases h with h | ⟨g,o,hs,h1,h2,hc⟩
 ·exact .inl h
 ·exact .inr ⟨g,o,hs,by omega,by omega,fun i r hi=>(hc i r hi).mono p q⟩
theorem CsR.at {w:World} {lo hi:Nat} {s:Option Addr} {l:List (List I5)} (h:CsR w lo hi s l) {i:Nat} {x:List I5} (hi':l[i]? =some x):∃ g off s' c',s=some ⟨g,off,none⟩∧lo≤g∧g < hi∧w.cell? ⟨g,off+i,none⟩=some (.slice s' x.length c')∧InsR w lo hi s' x:=by
 rcases h with rfl | ⟨g,o,hs,a,b,hc⟩
 ·simp at hi'
 ·obtain ⟨s',c',e1,e2⟩:=hc i x hi'
  exact ⟨g,o,s',c',hs,a,b,e1,e2⟩
theorem KsR.at {w:World} {lo hi:Nat} {s:Option Addr} {l:List KD} (h:KsR w lo hi s l) {i:Nat} {x:KD} (hi':l[i]? =some x):∃ g off s1 c1 s2 c2,s=some ⟨g,off,none⟩∧lo≤g∧g < hi∧w.cell? ⟨g,off+i * 4,none⟩=some (.int .i64 x.pc)∧w.cell? ⟨g,off+i * 4+1,none⟩=some (.slice s1 x.regs.length c1)∧w.cell? ⟨g,off+i * 4+2,none⟩=some (.slice s2 x.vw.length c2)∧w.cell? ⟨g,off+i * 4+3,none⟩=some (.int .i64 x.st)∧IntsR w lo hi s1 x.regs∧IntsR w lo hi s2 x.vw:=by
 rcases h with rfl | ⟨g,o,hs,a,b,hc⟩
 ·simp at hi'
 ·obtain ⟨s',c',s2,c2,e⟩:=hc i x hi'
  exact ⟨g,o,s',c',s2,c2,hs,a,b,e⟩
theorem MaR.keep {w w':World} {lo hi:Nat} {s1 s2 s3 s4:Option Addr} {d:MD} (h:MaR w lo hi s1 s2 s3 s4 d) (hb:Keep lo hi w w'):MaR w' lo hi s1 s2 s3 s4 d:=⟨h.1.keep hb,h.2.1.keep hb,h.2.2.1.keep hb,h.2.2.2.keep hb⟩
theorem MaR.mono {w:World} {lo hi lo' hi':Nat} {s1 s2 s3 s4:Option Addr} {d:MD} (h:MaR w lo hi s1 s2 s3 s4 d) (p:lo'≤lo) (q:hi≤hi'):MaR w lo' hi' s1 s2 s3 s4 d:=⟨h.1.mono p q,h.2.1.mono p q,h.2.2.1.mono p q,h.2.2.2.mono p q⟩
/- how great they are -/
def szC:List (List I5)→Nat
 | []=>0
 | x::r=>x.length+szC r
def szK:List KD→Nat
 | []=>0
 | x::r=>x.regs.length+x.vw.length+szK r
theorem szC_take:∀ (l:List (List I5)) (k:Nat) (x:List I5),l[k]? =some x→szC (l.take (k+1))=szC (l.take k)+x.length
 | [],k,x,h=>by simp at h
 | y::r,0,x,h=>by simp at h;subst h;simp [szC]
 | y::r,k+1,x,h=>by
  have:=szC_take r k x (by simpa using h)
  simp [szC,this]
  omega
theorem szK_take:∀ (l:List KD) (k:Nat) (x:KD),l[k]? =some x→szK (l.take (k+1))=szK (l.take k)+(x.regs.length+x.vw.length)
 | [],k,x,h=>by simp at h
 | y::r,0,x,h=>by simp at h;subst h;simp [szK]
 | y::r,k+1,x,h=>by
  have:=szK_take r k x (by simpa using h)
  simp [szK,this]
  omega
theorem szC_at:∀ (l:List (List I5)) (k:Nat) (x:List I5),l[k]? =some x→x.length≤szC l
 | [],k,x,h=>by simp at h
 | y::r,0,x,h=>by simp at h;subst h;simp [szC]
 | y::r,k+1,x,h=>by
  have:=szC_at r k x (by simpa using h)
  simp [szC]
  omega
theorem szK_at:∀ (l:List KD) (k:Nat) (x:KD),l[k]? =some x→x.regs.length+x.vw.length≤szK l
 | [],k,x,h=>by simp at h
 | y::r,0,x,h=>by simp at h;subst h;simp [szK]
 | y::r,k+1,x,h=>by
  have:=szK_at r k x (by simpa using h)
  simp [szK]
  omega
structure MaFits (d:MD):Prop where
 c:d.codes.length+szC d.codes≤1048576
 k:d.cores.length+szK d.cores≤1048576
 m:d.mem.length+szR d.mem≤2000000
 t:d.tr.length≤2000000
def MaSz (d:MD):Nat:=d.codes.length+szC d.codes+(d.cores.length+szK d.cores)+(d.mem.length+szR d.mem)+d.tr.length
theorem MaFits.of {d:MD} (h:MaSz d≤1048576):MaFits d:=by
 unfold MaSz at h
 exact ⟨by omega,by omega,by omega,by omega⟩
end
section
set_option linter.unusedSimpArgs false
set_option linter.unusedVariables false
set_option maxRecDepth 100000
open Go.RowKit
def IntC (w:World) (lo hi:Nat) (a:Addr):Prop:=(∃ z,w.cell? a=some (.int .i64 z))∧w.frozen? a=false∧lo≤a.block∧a.block < hi
def Somewhere (s:Option Addr):Prop:=∃ g o,s=some ⟨g,o,none⟩
end
section
set_option linter.unusedSimpArgs false
set_option linter.unusedVariables false
set_option maxRecDepth 100000
open Go.RowKit
inductive FS where
 | i
 | r (x:VS) (e:Nat)
inductive FV where
 | i (z:Int)
 | r (l:List Int)
def FS.kind:FS→Option Nat
 | .i=>none
 | .r _ e=>some e
def VS.wide (x:VS) (e:Nat):VS:=⟨x.s,x.n * e,x.c⟩
def fAs (a:Addr):FS→List Addr
 | .i=>[a]
 | .r x e=>vAs (x.wide e)
def recAs (s:Option Addr):List FS→Nat→List Addr
 | [],_=>[]
 | f::r,j=>fAs (adr s j) f++recAs s r (j+1)
def gAs (s:Option Addr) (wd:Nat):List (List FS)→Nat→List Addr
 | [],_=>[]
 | f::r,k=>recAs s f (k * wd)++gAs s wd r (k+1)
def FO (w:World) (lo hi:Nat) (a:Addr):FS→FV→Prop
 | .i,.i z=>w.cell? a=some (.int .i64 z)∧w.frozen? a=false∧lo≤a.block∧a.block < hi
 | .r x e,.r l=>w.cell? a=some (.slice x.s x.n x.c)∧(lo≤a.block∧a.block < hi)∧VO w lo hi (x.wide e) l
 | _,_=>False
def FSh (w:World) (lo hi:Nat) (a:Addr):FS→Prop
 | .i=>IntC w lo hi a
 | .r x e=>w.cell? a=some (.slice x.s x.n x.c)∧(lo≤a.block∧a.block < hi)∧(x.n * e=0∨Somewhere x.s)∧∀ b∈vAs (x.wide e),IntC w lo hi b
structure GO (w:World) (lo hi:Nat) (s:Option Addr) (T:List (Option Nat)) (R:List (List FS)) (L:List (List FV)):Prop where
 n:R.length=L.length
 rok:L=[]∨Somewhere s
 t:∀ (k:Nat) (rec:List FS),R[k]? =some rec→rec.map FS.kind=T
 c:∀ (k:Nat) (rec:List FS) (vals:List FV),R[k]? =some rec→L[k]? =some vals→rec.length=vals.length∧∀ (j:Nat) (f:FS) (v:FV),rec[j]? =some f→vals[j]? =some v→FO w lo hi (adr s (k * T.length+j)) f v
 o:∀ rec∈R,∀ x e,FS.r x e∈rec→∀ a∈vAs (x.wide e),∀ g o,s=some ⟨g,o,none⟩→a.block≠g
 d:(gAs s T.length R 0).Nodup
structure GSh (w:World) (lo hi:Nat) (s:Option Addr) (T:List (Option Nat)) (R:List (List FS)):Prop where
 rok:R=[]∨Somewhere s
 t:∀ (k:Nat) (rec:List FS),R[k]? =some rec→rec.map FS.kind=T
 c:∀ (k:Nat) (rec:List FS) (j:Nat) (f:FS),R[k]? =some rec→rec[j]? =some f→FSh w lo hi (adr s (k * T.length+j)) f
 d:(gAs s T.length R 0).Nodup
theorem mem_recAs {s:Option Addr} {a:Addr}:∀ {rec:List FS} {j:Nat},a∈recAs s rec j↔∃ (i:Nat) (f:FS),rec[i]? =some f∧a∈fAs (adr s (j+i)) f
 | [],j=>by simp [recAs]
 | f::r,j=>by
  simp only [recAs,List.mem_append,mem_recAs (rec:=r) (j:=j+1)]
  constructor
  ·rintro (h | ⟨i,f',h,e⟩)
   ·exact ⟨0,f,rfl,h⟩
   ·exact ⟨i+1,f',by simpa using h,by rw [show j+(i+1)=j+1+i by omega];exact e⟩
  ·rintro ⟨i,f',h,e⟩
   rcases Nat.eq_zero_or_pos i with rfl | hp
   ·simp at h
    subst h
    exact .inl e
   ·obtain ⟨m,rfl⟩:∃ m,i=m+1:=⟨i - 1,by omega⟩
    exact .inr ⟨m,f',by simpa using h,by rw [show j+1+m=j+(m+1) by omega];exact e⟩
theorem mem_gAs {s:Option Addr} {wd:Nat} {a:Addr}:∀ {R:List (List FS)} {k:Nat},a∈gAs s wd R k↔∃ (i:Nat) (rec:List FS) (j:Nat) (f:FS),R[i]? =some rec∧rec[j]? =some f∧a∈fAs (adr s ((k+i) * wd+j)) f
 | [],k=>by simp [gAs]
 | r0::r,k=>by
  simp only [gAs,List.mem_append,mem_gAs (R:=r) (k:=k+1),mem_recAs]
  constructor
  ·rintro (⟨j,f,h,e⟩ | ⟨i,rec,j,f,h,h',e⟩)
   ·exact ⟨0,r0,j,f,rfl,h,by simpa using e⟩
   ·exact ⟨i+1,rec,j,f,by simpa using h,h',by rw [show k+(i+1)=k+1+i by omega];exact e⟩
  ·rintro ⟨i,rec,j,f,h,h',e⟩
   rcases Nat.eq_zero_or_pos i with rfl | hp
   ·simp at h
    subst h
    exact .inl ⟨j,f,h',by simpa using e⟩
   ·obtain ⟨m,rfl⟩:∃ m,i=m+1:=⟨i - 1,by omega⟩
    exact .inr ⟨m,rec,j,f,by simpa using h,h',by rw [show k+1+m=k+(m+1) by omega];exact e⟩
theorem gAs_append (s:Option Addr) (wd:Nat) (b:List (List FS)):∀ (a:List (List FS)) (k:Nat),gAs s wd (a++b) k=gAs s wd a k++gAs s wd b (k+a.length)
 | [],k=>by simp [gAs]
 | y::r,k=>by
  have e:k+1+r.length=k+(r.length+1):=by omega
  simp [gAs,gAs_append s wd b r (k+1),e]
theorem FO.keep {w w':World} {lo hi:Nat} {a:Addr} {f:FS} {v:FV} (h:FO w lo hi a f v) (hb:Keep lo hi w w'):FO w' lo hi a f v:=by
 cases f<;>cases v<;>first | exact h | skip
 ·obtain ⟨h1,h2,h3,h4⟩:=h
  exact ⟨(hb.cell h3 h4).trans h1,(hb.frozen h3 h4).trans h2,h3,h4⟩
 ·obtain ⟨h1,⟨h3,h4⟩,h2⟩:=h
  exact ⟨(hb.cell h3 h4).trans h1,⟨h3,h4⟩,h2.keep hb⟩
theorem FO.mono {w:World} {lo hi lo' hi':Nat} {a:Addr} {f:FS} {v:FV} (h:FO w lo hi a f v) (p:lo'≤lo) (q:hi≤hi'):FO w lo' hi' a f v:=by
 cases f<;>cases v<;>first | exact h | skip
 ·obtain ⟨h1,h2,h3,h4⟩:=h
  exact ⟨h1,h2,by omega,by omega⟩
 ·obtain ⟨h1,⟨h3,h4⟩,h2⟩:=h
  exact ⟨h1,⟨by omega,by omega⟩,h2.mono p q⟩
theorem GO.keep {w w':World} {lo hi:Nat} {s:Option Addr} {T:List (Option Nat)} {R:List (List FS)} {L:List (List FV)} (h:GO w lo hi s T R L) (hb:Keep lo hi w w'):GO w' lo hi s T R L:=
 ⟨h.n,h.rok,h.t,fun k rec vals hr hl=>⟨(h.c k rec vals hr hl).1,fun j f v hf hv=>((h.c k rec vals hr hl).2 j f v hf hv).keep hb⟩,h.o,h.d⟩
theorem GO.mono {w:World} {lo hi lo' hi':Nat} {s:Option Addr} {T:List (Option Nat)} {R:List (List FS)} {L:List (List FV)} (h:GO w lo hi s T R L) (p:lo'≤lo) (q:hi≤hi'):GO w lo' hi' s T R L:=
 ⟨h.n,h.rok,h.t,fun k rec vals hr hl=>⟨(h.c k rec vals hr hl).1,fun j f v hf hv=>((h.c k rec vals hr hl).2 j f v hf hv).mono p q⟩,h.o,h.d⟩
theorem GO.nil (w:World) (lo hi:Nat) (s:Option Addr) (T:List (Option Nat)):GO w lo hi s T [] []:=
 ⟨rfl,.inl rfl,fun k rec h=>by simp at h,fun k rec vals h=>by simp at h,fun rec h=>by simp at h,by simp [gAs]⟩
theorem VO.intc {w:World} {lo hi:Nat} {x:VS} {l:List Int} (h:VO w lo hi x l) {a:Addr} (ha:a∈vAs x):IntC w lo hi a:=by
 have hb:=h.blk ha
 obtain ⟨i,hi',rfl⟩:=mem_vAs.1 ha
 rcases h.c with e | ⟨g,o,hs,h1,h2,hc⟩
 ·have:=h.n;rw [e] at this;simp at this;omega
 ·obtain ⟨c1,c2⟩:=hc i (by rw [← h.n];exact hi')
  rw [hs] at hb ⊢
  exact ⟨⟨_,c1⟩,c2,hb.1,hb.2⟩
theorem FO.sh {w:World} {lo hi:Nat} {a:Addr} {f:FS} {v:FV} (h:FO w lo hi a f v):FSh w lo hi a f:=by
 cases f<;>cases v<;>first | exact False.elim h | skip
 ·obtain ⟨h1,h2,h3,h4⟩:=h
  exact ⟨⟨_,h1⟩,h2,h3,h4⟩
 ·obtain ⟨h1,h34,h2⟩:=h
  refine ⟨h1,h34,?_,fun b hb=>h2.intc hb⟩
  rcases h2.c with e | ⟨g,o,hs,-⟩
  ·have:=h2.n;rw [e] at this;exact .inl this
  ·exact .inr ⟨g,o,hs⟩
theorem FSh.int {w:World} {lo hi:Nat} {a b:Addr} {f:FS} (h:FSh w lo hi a f) (hb:b∈fAs a f):IntC w lo hi b:=by
 cases f with
 | i=>simp [fAs] at hb;subst hb;exact h
 | r x e=>exact h.2.2.2 b hb
theorem GSh.int {w:World} {lo hi:Nat} {s:Option Addr} {T:List (Option Nat)} {R:List (List FS)} (h:GSh w lo hi s T R):∀ a∈gAs s T.length R 0,IntC w lo hi a:=fun a ha=>by
 obtain ⟨i,rec,j,f,h1,h2,h3⟩:=mem_gAs.1 ha
 rw [Nat.zero_add] at h3
 exact (h.c i rec j f h1 h2).int h3
theorem GO.sh {w:World} {lo hi:Nat} {s:Option Addr} {T:List (Option Nat)} {R:List (List FS)} {L:List (List FV)} (h:GO w lo hi s T R L):GSh w lo hi s T R:=by
 refine ⟨?_,h.t,fun k rec j f hr hf=>?_,h.d⟩
 ·rcases h.rok with e | e
  ·have:=h.n;rw [e] at this;exact .inl (List.length_eq_zero_iff.1 (by simpa using this))
  ·exact .inr e
 ·obtain ⟨vals,hv⟩:=at_same h.n.symm hr
  obtain ⟨h1,h2⟩:=h.c k rec vals hr hv
  obtain ⟨v,hv'⟩:=at_same h1.symm hf
  exact (h2 j f v hf hv').sh
theorem GO.blk {w:World} {lo hi:Nat} {s:Option Addr} {T:List (Option Nat)} {R:List (List FS)} {L:List (List FV)} (h:GO w lo hi s T R L) {a:Addr} (ha:a∈gAs s T.length R 0):lo≤a.block∧a.block < hi:=by
 obtain ⟨-,-,h3,h4⟩:=h.sh.int a ha
 exact ⟨h3,h4⟩
/- a record put behind a row -/
theorem GO.push {w w2 : World} {lo hi : Nat} {s : Option Addr} {T : List (Option Nat)} {R : List (List FS)} {L : List (List FV)} (rec : List FS) (vals : List FV) (h : GO w lo hi s T R L)
  (hs:Somewhere s) (hk:rec.map FS.kind=T) (hl:rec.length=vals.length)
  (hold:∀ (k:Nat) (r:List FS) (v:List FV) (j:Nat) (f:FS) (y:FV),R[k]? =some r→L[k]? =some v→r[j]? =some f→v[j]? =some y→FO w lo hi (adr s (k * T.length+j)) f y→FO w2 lo hi (adr s (k * T.length+j)) f y)
  (hnew:∀ (j:Nat) (f:FS) (v:FV),rec[j]? =some f→vals[j]? =some v→FO w2 lo hi (adr s (L.length * T.length+j)) f v)
  (ho:∀ x e,FS.r x e∈rec→∀ a∈vAs (x.wide e),∀ g o,s=some ⟨g,o,none⟩→a.block≠g)
  (hn:(recAs s rec (L.length * T.length)).Nodup) (hd:∀ a∈gAs s T.length R 0,a∉recAs s rec (L.length * T.length)):GO w2 lo hi s T (R++[rec]) (L++[vals]):=by
 have hlen:=h.n
 have ga:gAs s T.length (R++[rec]) 0=gAs s T.length R 0++recAs s rec (L.length * T.length):=by rw [gAs_append,hlen,Nat.zero_add];simp [gAs]
 refine ⟨by simp [hlen],.inr hs,fun k r hr=>?_,fun k r v hr hv=>?_,fun r hr=>?_,?_⟩
 ·rcases getElem?_push hr with hr | ⟨-,rfl⟩
  ·exact h.t k r hr
  ·exact hk
 ·rcases getElem?_push hr with hr | ⟨e1,rfl⟩
  ·rcases getElem?_push hv with hv | ⟨e2,rfl⟩
   ·refine ⟨(h.c k r v hr hv).1,fun j f y hf hy=>?_⟩
    exact hold k r v j f y hr hv hf hy ((h.c k r v hr hv).2 j f y hf hy)
   ·have:=(List.getElem?_eq_some_iff.1 hr).1
    omega
  ·rcases getElem?_push hv with hv | ⟨e2,rfl⟩
   ·have:=(List.getElem?_eq_some_iff.1 hv).1
    omega
   ·refine ⟨hl,fun j f y hf hy=>?_⟩
    rw [e2]
    exact hnew j f y hf hy
 ·rcases List.mem_append.1 hr with hr | hr
  ·exact h.o r hr
  ·simp at hr
   subst hr
   exact ho
 ·rw [ga]
  refine List.nodup_append.2 ⟨h.d,hn,fun a ha b hb e=>?_⟩
  subst e
  exact hd a ha hb
end
end Go.Proofs.YtlbeploopclegaaGreat
