/- The plain side of chapter 7: when a step of a core is right, and its word: functions of integers alone. No condition. The leaves of chapter 7: what each small function of the program answers, for every argument, in every world; which step has what its op names alone. No condition. laws.toStep hands its Step on, field by field, in new memory. No condition. Lists of steps as they lie in memory, and how the laws copy them. Conditions: lists of at most 1048576 steps. Machines as they lie in memory: rows of code, of cores, a memory, notes; how great they are. No condition. How great memories are counted. No condition but the lists' own bounds. How great machines are counted. No condition but the lists' own bounds. How the laws copy a list of steps into new memory that may be written. Conditions: lists of at most 1048576 steps. Rows of steps, of cores and of notes as rows of records; boxes of four cells that may be written. No condition. How the laws copy machines into new memory that may be written. Conditions: they are counted. How the laws copy cores into new memory that may be written. Conditions: they are counted. Machines that may be written, and how the laws copy one. Conditions: it is counted. Boxes of four cells that a law keeps. No condition. Rows of code and of cores that a call has made: owned whole, so that more may be put behind them. No condition. Append of steps onto an empty row, and of a row of steps onto rows of them. Conditions: fewer than 2^30 of them. Append of a core onto a row of them. Conditions: fewer than 2^30 of them. Rows of code copied by the program and by the specification. Conditions: they are counted. Locked of the program and of the specification. Conditions: what comes in is counted. -/
import Derived.Test.YtkhjhibigldcgaaLG00
import Derived.WalkKit
import Derived.Test.YtkhjhibigldcgaaLSpecIns
import Derived.Test.YtkhjhibigldcgaaChecked
import Derived.KernelRfl
import Derived.WalkSpells
import Derived.WalkLawsBesides
import Derived.Laws.MakeOwn
import Derived.Deep.QuietTactic
import Derived.BigQuiet
import Derived.Test.YtkhjhibigldcgaaLG02
import Derived.Test.YtkhjhibigldcgaaLG01
import Derived.Deep.RegionHeld3
namespace Go.Proofs.Ytkhjhibigldcgaa
section
set_option linter.unusedSimpArgs false
set_option linter.unusedVariables false
set_option maxRecDepth 100000
namespace Plain
def stepB (op r a b n pl:Int):Bool:=
 decide (0≤r∧r≤7∧0≤b∧b≤7∧a≤7∧(0≤a∨(a=-1∧(op=5∨op=6∨op=7)))∧
  ((op=1∧ -1000000000≤n∧n≤1000000000∧a=0∧b=0)
   ∨((op=2∨op=3∨op=4)∧n=0)
   ∨(op=5∧0≤n∧n≤23∧b=0)
   ∨((op=6∨op=7)∧0≤n∧n≤23∧r=0)
   ∨(op=8∧0≤n∧n≤23∧a=0)
   ∨(op=9∧r=0∧b=0∧n=0)
   ∨(op=10∧0≤n∧n < pl∧r=0∧a=0∧b=0)
   ∨(op=11∧0≤n∧n < pl∧r=0∧b=0)
   ∨((op=12∨op=13)∧r=0∧a=0∧b=0∧n=0)))
def memB (op:Int):Bool:=decide (op=5∨op=6∨op=7)
def endB (op:Int):Bool:=decide (op=10∨op=12∨op=13)
end Plain
end
section
set_option linter.unusedSimpArgs false
set_option linter.unusedVariables false
set_option maxRecDepth 100000
open Go.RowKit
end
section
set_option linter.unusedSimpArgs false
set_option linter.unusedVariables false
set_option maxRecDepth 100000
open Go.RowKit
end
section
set_option linter.unusedSimpArgs false
set_option linter.unusedVariables false
set_option maxRecDepth 100000
open Go.RowKit
end
section
set_option linter.unusedSimpArgs false
set_option linter.unusedVariables false
set_option maxRecDepth 100000
open Go.RowKit
def CR (w:World) (lo hi g off:Nat) (l:List I5):Prop:=∃ s c,w.cell? ⟨g,off,none⟩=some (.slice s l.length c)∧InsR w lo hi s l
def CsR (w:World) (lo hi:Nat) (s:Option Addr) (l:List (List I5)):Prop:=
 l=[]∨∃ g off,s=some ⟨g,off,none⟩∧lo≤g∧g < hi∧∀ (i:Nat) (x:List I5),l[i]? =some x→CR w lo hi g (off+i) x
structure KD where
 pc:Int
 regs:List Int
 vw:List Int
 st:Int
def KR (w:World) (lo hi g off:Nat) (k:KD):Prop:=
 ∃ s c s' c',w.cell? ⟨g,off,none⟩=some (.int .i64 k.pc)∧w.cell? ⟨g,off+1,none⟩=some (.slice s k.regs.length c)∧w.cell? ⟨g,off+2,none⟩=some (.slice s' k.vw.length c')∧w.cell? ⟨g,off+3,none⟩=some (.int .i64 k.st)∧IntsR w lo hi s k.regs∧IntsR w lo hi s' k.vw
def KsR (w:World) (lo hi:Nat) (s:Option Addr) (l:List KD):Prop:=
 l=[]∨∃ g off,s=some ⟨g,off,none⟩∧lo≤g∧g < hi∧∀ (i:Nat) (k:KD),l[i]? =some k→KR w lo hi g (off+i * 4) k
structure MD where
 codes:List (List I5)
 cores:List KD
 mem:List (List WD)
 tr:List ND
def MaR (w:World) (lo hi:Nat) (s1 s2 s3 s4:Option Addr) (d:MD):Prop:=CsR w lo hi s1 d.codes∧KsR w lo hi s2 d.cores∧MemR w lo hi s3 d.mem∧NtsR w lo hi s4 d.tr
theorem CR.keep {w w':World} {lo hi g off:Nat} {l:List I5} (h:CR w lo hi g off l) (hb:Keep lo hi w w') (hc:∀ j,w'.cell? ⟨g,j,none⟩=w.cell? ⟨g,j,none⟩):CR w' lo hi g off l:=by
 obtain ⟨s,c,h1,h2⟩:=h
 exact ⟨s,c,(hc _).trans h1,h2.keep hb⟩
theorem CR.mono {w:World} {lo hi lo' hi' g off:Nat} {l:List I5} (h:CR w lo hi g off l) (p:lo'≤lo) (q:hi≤hi'):CR w lo' hi' g off l:=by
 obtain ⟨s,c,h1,h2⟩:=h
 exact ⟨s,c,h1,h2.mono p q⟩
theorem KR.keep {w w':World} {lo hi g off:Nat} {k:KD} (h:KR w lo hi g off k) (hb:Keep lo hi w w') (hc:∀ j,w'.cell? ⟨g,j,none⟩=w.cell? ⟨g,j,none⟩):KR w' lo hi g off k:=by
 obtain ⟨s,c,s',c',h1,h2,h3,h4,h5,h6⟩:=h
 exact ⟨s,c,s',c',(hc _).trans h1,(hc _).trans h2,(hc _).trans h3,(hc _).trans h4,h5.keep hb,h6.keep hb⟩
theorem KR.mono {w:World} {lo hi lo' hi' g off:Nat} {k:KD} (h:KR w lo hi g off k) (p:lo'≤lo) (q:hi≤hi'):KR w lo' hi' g off k:=by
 obtain ⟨s,c,s',c',h1,h2,h3,h4,h5,h6⟩:=h
 exact ⟨s,c,s',c',h1,h2,h3,h4,h5.mono p q,h6.mono p q⟩
theorem CsR.keep {w w':World} {lo hi:Nat} {s:Option Addr} {l:List (List I5)} (h:CsR w lo hi s l) (hb:Keep lo hi w w'):CsR w' lo hi s l:=by
 rcases h with h | ⟨g,o,hs,h1,h2,hc⟩
 ·exact .inl h
 ·exact .inr ⟨g,o,hs,h1,h2,fun i r hi=>(hc i r hi).keep hb (fun j=>hb.cell h1 h2)⟩
theorem CsR.mono {w:World} {lo hi lo' hi':Nat} {s:Option Addr} {l:List (List I5)} (h:CsR w lo hi s l) (p:lo'≤lo) (q:hi≤hi'):CsR w lo' hi' s l:=by
 rcases h with h | ⟨g,o,hs,h1,h2,hc⟩
 ·exact .inl h
 ·exact .inr ⟨g,o,hs,by omega,by omega,fun i r hi=>(hc i r hi).mono p q⟩
theorem KsR.keep {w w':World} {lo hi:Nat} {s:Option Addr} {l:List (KD)} (h:KsR w lo hi s l) (hb:Keep lo hi w w'):KsR w' lo hi s l:=by
 rcases h with h | ⟨g,o,hs,h1,h2,hc⟩
 ·exact .inl h
 ·exact .inr ⟨g,o,hs,h1,h2,fun i r hi=>(hc i r hi).keep hb (fun j=>hb.cell h1 h2)⟩
theorem KsR.mono {w:World} {lo hi lo' hi':Nat} {s:Option Addr} {l:List (KD)} (h:KsR w lo hi s l) (p:lo'≤lo) (q:hi≤hi'):KsR w lo' hi' s l:=by
 rcases h with h | ⟨g,o,hs,h1,h2,hc⟩
 ·exact .inl h
 ·exact .inr ⟨g,o,hs,by omega,by omega,fun i r hi=>(hc i r hi).mono p q⟩
theorem CsR.at {w:World} {lo hi:Nat} {s:Option Addr} {l:List (List I5)} (h:CsR w lo hi s l) {i:Nat} {x:List I5} (hi':l[i]? =some x):∃ g off s' c',s=some ⟨g,off,none⟩∧lo≤g∧g < hi∧w.cell? ⟨g,off+i,none⟩=some (.slice s' x.length c')∧InsR w lo hi s' x:=by
 rcases h with rfl | ⟨g,o,hs,a,b,hc⟩
 ·simp at hi'
 ·obtain ⟨s',c',e1,e2⟩:=hc i x hi'
  exact ⟨g,o,s',c',hs,a,b,e1,e2⟩
theorem KsR.at {w:World} {lo hi:Nat} {s:Option Addr} {l:List KD} (h:KsR w lo hi s l) {i:Nat} {x:KD} (hi':l[i]? =some x):∃ g off s1 c1 s2 c2,s=some ⟨g,off,none⟩∧lo≤g∧g < hi∧w.cell? ⟨g,off+i * 4,none⟩=some (.int .i64 x.pc)∧w.cell? ⟨g,off+i * 4+1,none⟩=some (.slice s1 x.regs.length c1)∧w.cell? ⟨g,off+i * 4+2,none⟩=some (.slice s2 x.vw.length c2)∧w.cell? ⟨g,off+i * 4+3,none⟩=some (.int .i64 x.st)∧IntsR w lo hi s1 x.regs∧IntsR w lo hi s2 x.vw:=by
 rcases h with rfl | ⟨g,o,hs,a,b,hc⟩
 ·simp at hi'
 ·obtain ⟨s',c',s2,c2,e⟩:=hc i x hi'
  exact ⟨g,o,s',c',s2,c2,hs,a,b,e⟩
theorem MaR.keep {w w':World} {lo hi:Nat} {s1 s2 s3 s4:Option Addr} {d:MD} (h:MaR w lo hi s1 s2 s3 s4 d) (hb:Keep lo hi w w'):MaR w' lo hi s1 s2 s3 s4 d:=⟨h.1.keep hb,h.2.1.keep hb,h.2.2.1.keep hb,h.2.2.2.keep hb⟩
theorem MaR.mono {w:World} {lo hi lo' hi':Nat} {s1 s2 s3 s4:Option Addr} {d:MD} (h:MaR w lo hi s1 s2 s3 s4 d) (p:lo'≤lo) (q:hi≤hi'):MaR w lo' hi' s1 s2 s3 s4 d:=⟨h.1.mono p q,h.2.1.mono p q,h.2.2.1.mono p q,h.2.2.2.mono p q⟩
/- how great they are -/
def szC:List (List I5)→Nat
 | []=>0
 | x::r=>x.length+szC r
def szK:List KD→Nat
 | []=>0
 | x::r=>x.regs.length+x.vw.length+szK r
theorem szC_take:∀ (l:List (List I5)) (k:Nat) (x:List I5),l[k]? =some x→szC (l.take (k+1))=szC (l.take k)+x.length
 | [],k,x,h=>by simp at h
 | y::r,0,x,h=>by simp at h;subst h;simp [szC]
 | y::r,k+1,x,h=>by
  have:=szC_take r k x (by simpa using h)
  simp [szC,this]
  omega
theorem szK_take:∀ (l:List KD) (k:Nat) (x:KD),l[k]? =some x→szK (l.take (k+1))=szK (l.take k)+(x.regs.length+x.vw.length)
 | [],k,x,h=>by simp at h
 | y::r,0,x,h=>by simp at h;subst h;simp [szK]
 | y::r,k+1,x,h=>by
  have:=szK_take r k x (by simpa using h)
  simp [szK,this]
  omega
theorem szC_at:∀ (l:List (List I5)) (k:Nat) (x:List I5),l[k]? =some x→x.length≤szC l
 | [],k,x,h=>by simp at h
 | y::r,0,x,h=>by simp at h;subst h;simp [szC]
 | y::r,k+1,x,h=>by
  have:=szC_at r k x (by simpa using h)
  simp [szC]
  omega
theorem szK_at:∀ (l:List KD) (k:Nat) (x:KD),l[k]? =some x→x.regs.length+x.vw.length≤szK l
 | [],k,x,h=>by simp at h
 | y::r,0,x,h=>by simp at h;subst h;simp [szK]
 | y::r,k+1,x,h=>by
  have:=szK_at r k x (by simpa using h)
  simp [szK]
  omega
structure MaFits (d:MD):Prop where
 c:d.codes.length+szC d.codes≤1048576
 k:d.cores.length+szK d.cores≤1048576
 m:d.mem.length+szR d.mem≤2000000
 t:d.tr.length≤2000000
def MaSz (d:MD):Nat:=d.codes.length+szC d.codes+(d.cores.length+szK d.cores)+(d.mem.length+szR d.mem)+d.tr.length
end
section
set_option linter.unusedSimpArgs false
set_option linter.unusedVariables false
set_option maxRecDepth 100000
open Go.RowKit
end
section
set_option linter.unusedSimpArgs false
set_option linter.unusedVariables false
set_option maxRecDepth 100000
open Go.RowKit
structure B4 (w:World) (b:Nat) (v0 v1 v2 v3:Value):Prop where
 z:b < w.heap.size
 c0:w.cell? ⟨b,0,none⟩=some v0
 c1:w.cell? ⟨b,1,none⟩=some v1
 c2:w.cell? ⟨b,2,none⟩=some v2
 c3:w.cell? ⟨b,3,none⟩=some v3
theorem B4.keep {w w':World} {b:Nat} {v0 v1 v2 v3:Value} (h:B4 w b v0 v1 v2 v3) {B:Nat} (hb:Below B w w') (hB:b < B):B4 w' b v0 v1 v2 v3:=
 ⟨Nat.lt_of_lt_of_le h.z hb.size,(hb.cell (p:=⟨b,0,none⟩) hB).trans h.c0,(hb.cell (p:=⟨b,1,none⟩) hB).trans h.c1,(hb.cell (p:=⟨b,2,none⟩) hB).trans h.c2,(hb.cell (p:=⟨b,3,none⟩) hB).trans h.c3⟩
theorem B4.new (w:World) (v0 v1 v2 v3:Value) (T:TypeId):∃ W,w.alloc (.cells #[v0,v1,v2,v3] T)=W∧B4 W w.heap.size v0 v1 v2 v3∧Below w.heap.size w W∧w.heap.size < W.heap.size:=by
 refine ⟨_,rfl,⟨?_,?_,?_,?_,?_⟩,(Below.refl _ _).alloc (Nat.le_refl _) _,?_⟩<;>simp [go_sem]
end
section
set_option linter.unusedSimpArgs false
set_option linter.unusedVariables false
set_option maxRecDepth 100000
open Go.RowKit
def codeV (l:List I5):List FV:=[.r (fl5 l)]
def coreV (k:KD):List FV:=[.i k.pc,.r k.regs,.r k.vw,.i k.st]
def TC:List (Option Nat):=[some 5]
def TK:List (Option Nat):=[none,some 1,some 1,none]
def fl2:List ND→List Int
 | []=>[]
 | x::r=>[x.who,x.v]++fl2 r
theorem fl2_len:∀ l:List ND,(fl2 l).length=l.length * 2
 | []=>rfl
 | x::r=>by simp [fl2,fl2_len r];omega
theorem flatN_fl2:∀ l:List ND,flatN l=(fl2 l).map (Value.int .i64)
 | []=>rfl
 | x::r=>by simp [flatN,fl2,flatN_fl2 r]
theorem wide_one (x:VS):x.wide 1=x:=by cases x;simp [VS.wide]
/- a row that is owned whole -/
theorem own_vo {w:World} {base n size:Nat} {e:TypeId} {v:Value} {l:List Int} (h:w.ownsRow base e size v n (l.map (Value.int .i64))) (hl:l.length=n * size):∃ s c,v=.slice s n c∧VO w base w.heap.size ((⟨s,n,c⟩:VS).wide size) l:=by
 rcases Nat.eq_zero_or_pos n with h0 | hpos
 ·subst h0
  obtain ⟨s,c,e⟩:=ownSl h
  exact ⟨s,c,e,⟨by simp [VS.wide,hl],.inl (List.length_eq_zero_iff.1 (by simpa using hl))⟩⟩
 ·obtain ⟨g,cap,rfl,-⟩:=World.ownsRow.form h hpos
  have hlt:=World.ownsRow.lt h g rfl
  refine ⟨_,_,rfl,⟨by simp [VS.wide,hl],.inr ⟨g,0,rfl,hlt.1,hlt.2,fun i hi=>?_⟩⟩⟩
  rw [Nat.zero_add]
  refine ⟨?_,World.ownsRow.frozenAt h i⟩
  rw [World.ownsRow.cellAt h i (by omega),List.getElem?_map,List.getD_eq_getElem?_getD,List.getElem?_eq_getElem hi]
  rfl
theorem OwnD.vo {w:World} {base n c:Nat} {s:Option Addr} {l:List ND} (h:OwnD w base (.slice s n c) l) (hn:n=l.length):VO w base w.heap.size ((⟨s,n,c⟩:VS).wide 2) (fl2 l):=by
 subst hn
 unfold OwnD at h
 rw [flatN_fl2] at h
 obtain ⟨s',c',e,hv⟩:=own_vo h (fl2_len l)
 injection e with e1 e2 e3
 subst e1 e3
 exact hv
/- reading what is owned -/
theorem VO.insR {w:World} {lo hi:Nat} {s:Option Addr} {c:Nat} {l:List I5} (h:VO w lo hi ((⟨s,l.length,c⟩:VS).wide 5) (fl5 l)):InsR w lo hi s l:=by
 rcases h.c with e | ⟨g,o,hs,h1,h2,hc⟩
 ·have:=fl5_len l
  rw [e] at this
  exact .inl (List.length_eq_zero_iff.1 (by simp at this;omega))
 ·refine .inr ⟨g,o,hs,h1,h2,fun i hi=>?_⟩
  have hx:l[i]? =some (l.getD i z5):=by rw [List.getD_eq_getElem?_getD,List.getElem?_eq_getElem hi];rfl
  obtain ⟨e0,e1,e2,e3,e4⟩:=fl5_at l i _ hx
  have q:∀ j,j < 5→w.cell? ⟨g,o+i * 5+j,none⟩=some (.int .i64 ((fl5 l).getD (i * 5+j) 0)):=fun j hj=>by
   have:=(hc (i * 5+j) (by rw [fl5_len];omega)).1
   rw [← Nat.add_assoc] at this
   exact this
  have q0:=q 0 (by omega)
  have q1:=q 1 (by omega)
  have q2:=q 2 (by omega)
  have q3:=q 3 (by omega)
  have q4:=q 4 (by omega)
  rw [List.getD_eq_getElem?_getD] at q0 q1 q2 q3 q4
  rw [Nat.add_zero,Nat.add_zero,e0] at q0
  rw [e1] at q1
  rw [e2] at q2
  rw [e3] at q3
  rw [e4] at q4
  exact ⟨q0,q1,q2,q3,q4⟩
theorem kindC {rec:List FS} (h:rec.map FS.kind=TC):∃ x,rec=[.r x 5]:=by
 match rec,h with
 | [.r x e],h=>
  simp [TC,FS.kind] at h
  exact ⟨x,by rw [h]⟩
 | [.i],h=>simp [TC,FS.kind] at h
 | [],h=>simp [TC] at h
 | _::_::_,h=>simp [TC] at h
theorem kindK {rec:List FS} (h:rec.map FS.kind=TK):∃ x y,rec=[.i,.r x 1,.r y 1,.i]:=by
 match rec,h with
 | [.i,.r x e,.r y e',.i],h=>
  simp [TK,FS.kind] at h
  exact ⟨x,y,by rw [h.1,h.2]⟩
 | [],h=>simp [TK] at h
 | [_],h=>simp [TK] at h
 | [_,_],h=>simp [TK] at h
 | [_,_,_],h=>simp [TK] at h
 | .r _ _::_::_::_::_,h=>simp [TK,FS.kind] at h
 | .i::.i::_::_::_,h=>simp [TK,FS.kind] at h
 | .i::.r _ _::.i::_::_,h=>simp [TK,FS.kind] at h
 | .i::.r _ _::.r _ _::.r _ _::_,h=>simp [TK,FS.kind] at h
 | .i::.r _ _::.r _ _::.i::_::_,h=>simp [TK,FS.kind] at h
theorem GO.csR {w:World} {lo hi:Nat} {s:Option Addr} {R:List (List FS)} {l:List (List I5)} (h:GO w lo hi s TC R (l.map codeV)):CsR w lo hi s l:=by
 rcases h.rok with e | ⟨g,o,rfl⟩
 ·exact .inl (by simpa using e)
 ·rcases Nat.eq_zero_or_pos l.length with h0 | hpos
  ·exact .inl (List.length_eq_zero_iff.1 h0)
  have at1:∀ i x,l[i]? =some x→CR w lo hi g (o+i) x∧lo≤g∧g < hi:=fun i x hx=>by
   have hv:(l.map codeV)[i]? =some (codeV x):=by rw [List.getElem?_map,hx];rfl
   obtain ⟨rec,hr⟩:=at_same h.n hv
   obtain ⟨y,rfl⟩:=kindC (h.t i rec hr)
   have q:=(h.c i _ _ hr hv).2 0 (.r y 5) (.r (fl5 x)) rfl rfl
   obtain ⟨q1,q2,q3⟩:=q
   have hn:y.n=x.length:=by
    have:=q3.n
    rw [fl5_len] at this
    simp [VS.wide] at this
    omega
   obtain ⟨ys,yn,yc⟩:=y
   simp only at hn
   subst hn
   refine ⟨⟨ys,yc,?_,q3.insR⟩,q2⟩
   simpa [adr,TC] using q1
  have h0:=at1 0 _ (List.getElem?_eq_getElem hpos)
  exact .inr ⟨g,o,rfl,h0.2.1,h0.2.2,fun i x hx=>(at1 i x hx).1⟩
theorem GO.ksR {w:World} {lo hi:Nat} {s:Option Addr} {R:List (List FS)} {l:List KD} (h:GO w lo hi s TK R (l.map coreV)):KsR w lo hi s l:=by
 rcases h.rok with e | ⟨g,o,rfl⟩
 ·exact .inl (by simpa using e)
 ·rcases Nat.eq_zero_or_pos l.length with h0 | hpos
  ·exact .inl (List.length_eq_zero_iff.1 h0)
  have at1:∀ i x,l[i]? =some x→KR w lo hi g (o+i * 4) x∧lo≤g∧g < hi:=fun i x hx=>by
   have hv:(l.map coreV)[i]? =some (coreV x):=by rw [List.getElem?_map,hx];rfl
   obtain ⟨rec,hr⟩:=at_same h.n hv
   obtain ⟨y,y',rfl⟩:=kindK (h.t i rec hr)
   have q:=(h.c i _ _ hr hv).2
   have q0:=q 0 .i (.i x.pc) rfl rfl
   have q1:=q 1 (.r y 1) (.r x.regs) rfl rfl
   have q2:=q 2 (.r y' 1) (.r x.vw) rfl rfl
   have q3:=q 3 .i (.i x.st) rfl rfl
   obtain ⟨a1,a2,a3⟩:=q1
   obtain ⟨b1,b2,b3⟩:=q2
   rw [wide_one] at a3 b3
   have n1:=a3.n
   have n2:=b3.n
   obtain ⟨ys,yn,yc⟩:=y
   obtain ⟨zs,zn,zc⟩:=y'
   simp only at n1 n2
   subst n1 n2
   have e:∀ j,o+(i * 4+j)=o+i * 4+j:=fun j=>by omega
   simp only [adr,TK,List.length,e] at q0 a1 b1 q3 a2
   exact ⟨⟨ys,yc,zs,zc,q0.1,a1,b1,q3.1,a3.ints,b3.ints⟩,a2⟩
  have h0:=at1 0 _ (List.getElem?_eq_getElem hpos)
  exact .inr ⟨g,o,rfl,h0.2.1,h0.2.2,fun i x hx=>(at1 i x hx).1⟩
theorem fl2_at:∀ (l:List ND) (i:Nat) (x:ND),l[i]? =some x→(fl2 l)[i * 2]? =some x.who∧(fl2 l)[i * 2+1]? =some x.v
 | [],i,x,h=>by simp at h
 | y::r,0,x,h=>by
  simp at h
  subst h
  exact ⟨rfl,rfl⟩
 | y::r,i+1,x,h=>by
  have h':r[i]? =some x:=by simpa using h
  have e:=fl2_at r i x h'
  have e0:(i+1) * 2=i * 2+2:=by omega
  rw [e0]
  exact e
theorem VO.ntsR {w:World} {lo hi:Nat} {s:Option Addr} {n c:Nat} {l:List ND} (h:VO w lo hi ((⟨s,n,c⟩:VS).wide 2) (fl2 l)):NtsR w lo hi s l:=by
 rcases h.c with e | ⟨g,o,hs,h1,h2,hc⟩
 ·have:=fl2_len l
  rw [e] at this
  exact .inl (List.length_eq_zero_iff.1 (by simp at this;omega))
 ·refine .inr ⟨g,o,hs,h1,h2,fun i x hx=>?_⟩
  have hi:=(List.getElem?_eq_some_iff.1 hx).1
  obtain ⟨e0,e1⟩:=fl2_at l i _ hx
  have q0:=(hc (i * 2) (by rw [fl2_len];omega)).1
  have q1:=(hc (i * 2+1) (by rw [fl2_len];omega)).1
  rw [List.getD_eq_getElem?_getD] at q0 q1
  rw [e0] at q0
  rw [e1] at q1
  exact ⟨q0,q1⟩
/- a box of four cells that may be written -/
structure X4 (w:World) (b:Nat) (v0 v1 v2 v3:Value):Prop where
 x:B4 w b v0 v1 v2 v3
 fz:∀ j,w.frozen? ⟨b,j,none⟩=false
theorem X4.keep {w w':World} {b:Nat} {v0 v1 v2 v3:Value} (h:X4 w b v0 v1 v2 v3) {B:Nat} (hb:Below B w w') (hB:b < B):X4 w' b v0 v1 v2 v3:=
 ⟨h.x.keep hb hB,fun j=>(hb.frozen (p:=⟨b,j,none⟩) hB).trans (h.fz j)⟩
theorem X4.set0 {w:World} {b:Nat} {v0 v1 v2 v3 u:Value} (h:X4 w b v0 v1 v2 v3):X4 (w.setCell ⟨b,0,none⟩ u) b u v1 v2 v3:=
 ⟨⟨by simpa using h.x.z,setC_at (by rw [h.x.c0];rfl),(setC_off (by omega)).trans h.x.c1,(setC_off (by omega)).trans h.x.c2,(setC_off (by omega)).trans h.x.c3⟩,fun j=>by rw [World.frozen?_setCell];exact h.fz j⟩
theorem X4.set1 {w:World} {b:Nat} {v0 v1 v2 v3 u:Value} (h:X4 w b v0 v1 v2 v3):X4 (w.setCell ⟨b,1,none⟩ u) b v0 u v2 v3:=
 ⟨⟨by simpa using h.x.z,(setC_off (by omega)).trans h.x.c0,setC_at (by rw [h.x.c1];rfl),(setC_off (by omega)).trans h.x.c2,(setC_off (by omega)).trans h.x.c3⟩,fun j=>by rw [World.frozen?_setCell];exact h.fz j⟩
theorem X4.set2 {w:World} {b:Nat} {v0 v1 v2 v3 u:Value} (h:X4 w b v0 v1 v2 v3):X4 (w.setCell ⟨b,2,none⟩ u) b v0 v1 u v3:=
 ⟨⟨by simpa using h.x.z,(setC_off (by omega)).trans h.x.c0,(setC_off (by omega)).trans h.x.c1,setC_at (by rw [h.x.c2];rfl),(setC_off (by omega)).trans h.x.c3⟩,fun j=>by rw [World.frozen?_setCell];exact h.fz j⟩
theorem X4.set3 {w:World} {b:Nat} {v0 v1 v2 v3 u:Value} (h:X4 w b v0 v1 v2 v3):X4 (w.setCell ⟨b,3,none⟩ u) b v0 v1 v2 u:=
 ⟨⟨by simpa using h.x.z,(setC_off (by omega)).trans h.x.c0,(setC_off (by omega)).trans h.x.c1,(setC_off (by omega)).trans h.x.c2,setC_at (by rw [h.x.c3];rfl)⟩,fun j=>by rw [World.frozen?_setCell];exact h.fz j⟩
theorem X4.new (w:World) (v0 v1 v2 v3:Value) (T:TypeId):∃ W,w.alloc (.cells #[v0,v1,v2,v3] T)=W∧X4 W w.heap.size v0 v1 v2 v3∧Below w.heap.size w W∧w.heap.size < W.heap.size:=by
 refine ⟨_,rfl,⟨⟨?_,?_,?_,?_,?_⟩,?_⟩,(Below.refl _ _).alloc (Nat.le_refl _) _,?_⟩<;>first | (simp [go_sem];done) | (intro j;simp [go_sem])
structure MP where
 s1:Option Addr
 c1:Nat
 RC:List (List FS)
 s2:Option Addr
 c2:Nat
 RK:List (List FS)
 s3:Option Addr
 c3:Nat
 S:List RS
 s4:Option Addr
 c4:Nat
def MP.x4 (p:MP) (d:MD):VS:=(⟨p.s4,d.tr.length,p.c4⟩:VS).wide 2
def MP.as (p:MP) (d:MD):List Addr:=gAs p.s1 TC.length p.RC 0++(gAs p.s2 TK.length p.RK 0++(mAs p.S++vAs (p.x4 d)))
structure MaO (w:World) (lo hi:Nat) (p:MP) (d:MD):Prop where
 c:GO w lo hi p.s1 TC p.RC (d.codes.map codeV)
 k:GO w lo hi p.s2 TK p.RK (d.cores.map coreV)
 m:MO w lo hi p.s3 p.S d.mem
 t:VO w lo hi (p.x4 d) (fl2 d.tr)
 d:(p.as d).Nodup
theorem MaO.keep {w w':World} {lo hi:Nat} {p:MP} {d:MD} (h:MaO w lo hi p d) (hb:Keep lo hi w w'):MaO w' lo hi p d:=⟨h.c.keep hb,h.k.keep hb,h.m.keep hb,h.t.keep hb,h.d⟩
theorem MaO.mono {w:World} {lo hi lo' hi':Nat} {p:MP} {d:MD} (h:MaO w lo hi p d) (a:lo'≤lo) (b:hi≤hi'):MaO w lo' hi' p d:=⟨h.c.mono a b,h.k.mono a b,h.m.mono a b,h.t.mono a b,h.d⟩
theorem MaO.ma {w:World} {lo hi:Nat} {p:MP} {d:MD} (h:MaO w lo hi p d):MaR w lo hi p.s1 p.s2 p.s3 p.s4 d:=⟨h.c.csR,h.k.ksR,h.m.mem,h.t.ntsR⟩
end
section
set_option linter.unusedSimpArgs false
set_option linter.unusedVariables false
set_option maxRecDepth 100000
open Go.RowKit
structure KV where
 d:KD
 r:Value
 v:Value
structure CV where
 l:List I5
 v:Value
def flatK:List KV→List Value
 | []=>[]
 | x::t=>[.int .i64 x.d.pc,x.r,x.v,.int .i64 x.d.st]++flatK t
theorem flatK_app:∀ (a b:List KV),flatK (a++b)=flatK a++flatK b
 | [],b=>rfl
 | x::r,b=>by simp [flatK,flatK_app r b]
theorem flatK_at:∀ (L:List KV) (i:Nat) (x:KV),L[i]? =some x→(flatK L)[i * 4]? =some (.int .i64 x.d.pc)∧(flatK L)[i * 4+1]? =some x.r∧(flatK L)[i * 4+2]? =some x.v∧(flatK L)[i * 4+3]? =some (.int .i64 x.d.st)
 | [],i,x,h=>by simp at h
 | y::r,0,x,h=>by
  simp at h
  subst h
  exact ⟨rfl,rfl,rfl,rfl⟩
 | y::r,i+1,x,h=>by
  have h':r[i]? =some x:=by simpa using h
  have e:=flatK_at r i x h'
  have e0:(i+1) * 4=i * 4+4:=by omega
  rw [e0]
  exact e
structure OwnKx117 (w:World) (base:Nat) (v:Value) (L:List KV):Prop where
 row:w.ownsRow base 93 4 v L.length (flatK L)
 inn:∀ (i:Nat) (x:KV),L[i]? =some x→OwnN w base x.r x.d.regs∧OwnN w base x.v x.d.vw
 two:∀ (i:Nat) (x:KV) (k:Nat),L[i]? =some x→x.r.ownBlock=some k→x.v.ownBlock≠some k
 sep:∀ (i j:Nat) (x y:KV) (k:Nat),L[i]? =some x→L[j]? =some y→i≠j→(x.r.ownBlock=some k∨x.v.ownBlock=some k)→¬ (y.r.ownBlock=some k∨y.v.ownBlock=some k)
structure OwnC (w:World) (base:Nat) (v:Value) (L:List CV):Prop where
 row:w.ownsRow base 99 1 v L.length (L.map CV.v)
 inn:∀ (i:Nat) (x:CV),L[i]? =some x→OwnT5 w base x.v x.l
 sep:∀ (i j:Nat) (x y:CV) (k:Nat),L[i]? =some x→L[j]? =some y→i≠j→x.v.ownBlock=some k→y.v.ownBlock≠some k
theorem OwnKx117.keep {w w':World} {base:Nat} {v:Value} {L:List KV} (h:OwnKx117 w base v L) (hb:∀ k,base≤k→k < w.heap.size→w'.heap[k]? =w.heap[k]?):OwnKx117 w' base v L:=
 ⟨ownKeep' h.row (fun k hk=>hb k (World.ownsRow.lt h.row _ hk).1 (World.ownsRow.lt h.row _ hk).2),fun i x hx=>⟨ownKeep' (h.inn i x hx).1 (fun k hk=>hb k (World.ownsRow.lt (h.inn i x hx).1 _ hk).1 (World.ownsRow.lt (h.inn i x hx).1 _ hk).2),ownKeep' (h.inn i x hx).2 (fun k hk=>hb k (World.ownsRow.lt (h.inn i x hx).2 _ hk).1 (World.ownsRow.lt (h.inn i x hx).2 _ hk).2)⟩,h.two,h.sep⟩
theorem OwnKx117.below {w w':World} {base:Nat} {v:Value} {L:List KV} (h:OwnKx117 w base v L) (hb:Below w.heap.size w w'):OwnKx117 w' base v L:=h.keep fun k _ hk=>hb.block k hk
theorem OwnKx117.nil (w:World) (base:Nat):OwnKx117 w base (.slice none 0 0) []:=⟨World.ownsRow_nil _ _ _ _,fun i x hx=>by simp at hx,fun i x k hx=>by simp at hx,fun i j x y k hx=>by simp at hx⟩
theorem OwnC.keep {w w':World} {base:Nat} {v:Value} {L:List CV} (h:OwnC w base v L) (hb:∀ k,base≤k→k < w.heap.size→w'.heap[k]? =w.heap[k]?):OwnC w' base v L:=
 ⟨ownKeep' h.row (fun k hk=>hb k (World.ownsRow.lt h.row _ hk).1 (World.ownsRow.lt h.row _ hk).2),fun i x hx=>ownKeep' (h.inn i x hx) (fun k hk=>hb k (World.ownsRow.lt (h.inn i x hx) _ hk).1 (World.ownsRow.lt (h.inn i x hx) _ hk).2),h.sep⟩
theorem OwnC.below {w w':World} {base:Nat} {v:Value} {L:List CV} (h:OwnC w base v L) (hb:Below w.heap.size w w'):OwnC w' base v L:=h.keep fun k _ hk=>hb.block k hk
theorem VO.nodup {w:World} {lo hi:Nat} {x:VS} {l:List Int} (h:VO w lo hi x l):(vAs x).Nodup:=by
 rcases h.c with e | ⟨g,o,hs,-⟩
 ·have:=h.n
  rw [e] at this
  simp at this
  simp [vAs,this]
 ·exact vAs_nodup hs
theorem push_get {α:Type} {L:List α} {y z:α} {i:Nat} (h:(L++[y])[i]? =some z):L[i]? =some z∨(i=L.length∧z=y):=by
 rcases getElem?_push h with h | ⟨h,e⟩
 ·exact .inl h
 ·exact .inr ⟨h,e⟩
/- one more behind a row -/
theorem OwnC.push {w w' : World} {base g cap : Nat} {v : Value} {L : List CV} {y : CV} (h : OwnC w base v L) (hy : OwnT5 w base y.v y.l)
  (hs:∀ (i:Nat) (z:CV) (k:Nat),L[i]? =some z→y.v.ownBlock=some k→z.v.ownBlock≠some k)
  (q1:w'.ownsRow base 99 1 (.slice (some ⟨g,0,none⟩) (L.length+1) cap) (L.length+1) (L.map CV.v++[y.v])) (hk:∀ k,k < w.heap.size→v.ownBlock≠some k→w'.heap[k]? =w.heap[k]?):
  OwnC w' base (.slice (some ⟨g,0,none⟩) (L.length+1) cap) (L++[y]):=by
 have kp:∀ (x:CV),OwnT5 w base x.v x.l→OwnT5 w' base x.v x.l:=fun x hx=>ownKeep' hx (fun k hk'=>hk k (World.ownsRow.lt hx _ hk').2 (ownType' hx h.row (by decide) hk'))
 refine ⟨by rw [List.map_append,List.length_append];exact q1,fun i x hx=>?_,fun i j x z k hx hz hne=>?_⟩
 ·rcases push_get hx with hx | ⟨-,rfl⟩
  ·exact kp _ (h.inn i x hx)
  ·exact kp _ hy
 ·rcases push_get hx with hx1 | ⟨e1,ex⟩<;>rcases push_get hz with hz1 | ⟨e2,ez⟩
  ·exact h.sep i j x z k hx1 hz1 hne
  ·rw [ez]
   intro a b
   exact hs i x k hx1 b a
  ·rw [ex]
   exact hs j z k hz1
  ·omega
theorem OwnKx117.push {w w' : World} {base g cap : Nat} {v : Value} {L : List KV} {y : KV} (h : OwnKx117 w base v L) (hy : OwnN w base y.r y.d.regs ∧ OwnN w base y.v y.d.vw) (ht : ∀ k, y.r.ownBlock = some k → y.v.ownBlock ≠ some k)
  (hs:∀ (i:Nat) (z:KV) (k:Nat),L[i]? =some z→(y.r.ownBlock=some k∨y.v.ownBlock=some k)→¬ (z.r.ownBlock=some k∨z.v.ownBlock=some k))
  (q1:w'.ownsRow base 93 4 (.slice (some ⟨g,0,none⟩) (L.length+1) cap) (L.length+1) (flatK L++[.int .i64 y.d.pc,y.r,y.v,.int .i64 y.d.st])) (hk:∀ k,k < w.heap.size→v.ownBlock≠some k→w'.heap[k]? =w.heap[k]?):
  OwnKx117 w' base (.slice (some ⟨g,0,none⟩) (L.length+1) cap) (L++[y]):=by
 have kp:∀ (u:Value) (l:List Int),OwnN w base u l→OwnN w' base u l:=fun u l hx=>ownKeep' hx (fun k hk'=>hk k (World.ownsRow.lt hx _ hk').2 (ownType' hx h.row (by decide) hk'))
 refine ⟨by rw [flatK_app,List.length_append];exact q1,fun i x hx=>?_,fun i x k hx=>?_,fun i j x z k hx hz hne=>?_⟩
 ·rcases push_get hx with hx | ⟨-,rfl⟩
  ·exact ⟨kp _ _ (h.inn i x hx).1,kp _ _ (h.inn i x hx).2⟩
  ·exact ⟨kp _ _ hy.1,kp _ _ hy.2⟩
 ·rcases push_get hx with hx | ⟨-,rfl⟩
  ·exact h.two i x k hx
  ·exact ht k
 ·rcases push_get hx with hx1 | ⟨e1,ex⟩<;>rcases push_get hz with hz1 | ⟨e2,ez⟩
  ·exact h.sep i j x z k hx1 hz1 hne
  ·rw [ez]
   intro a b
   exact hs i x k hx1 b a
  ·rw [ex]
   exact hs j z k hz1
  ·omega
/- rows that are owned, as rows of records -/
theorem vAs_blk {s:Option Addr} {n c e:Nat} {a:Addr} (ha:a∈vAs ((⟨s,n,c⟩:VS).wide e)) (hs:Somewhere s):(Value.slice s n c).ownBlock=some a.block:=by
 obtain ⟨i,-,rfl⟩:=mem_vAs.1 ha
 obtain ⟨g,o,rfl⟩:=hs
 rfl
theorem VO.own {w:World} {lo hi:Nat} {s:Option Addr} {n c e:Nat} {l:List Int} (h:VO w lo hi ((⟨s,n,c⟩:VS).wide e) l) {a:Addr} (ha:a∈vAs ((⟨s,n,c⟩:VS).wide e)):(Value.slice s n c).ownBlock=some a.block:=by
 rcases h.c with e | ⟨g,o,hs,-⟩
 ·have:=h.n
  rw [e] at this
  obtain ⟨i,hi',-⟩:=mem_vAs.1 ha
  rw [this] at hi'
  simp at hi'
 ·exact vAs_blk ha ⟨g,o,hs⟩
theorem OwnC.go {w:World} {base:Nat} {v:Value} {L:List CV} (h:OwnC w base v L):∃ s c R,v=.slice s L.length c∧GO w base w.heap.size s TC R (L.map fun x=>codeV x.l):=by
 rcases Nat.eq_zero_or_pos L.length with h0 | hpos
 ·obtain ⟨s,c,e⟩:=ownSl h.row
  rw [List.length_eq_zero_iff.1 h0]
  rw [h0] at e
  exact ⟨s,c,[],e,GO.nil _ _ _ _ _⟩
 obtain ⟨g,cap,e,-⟩:=World.ownsRow.form h.row hpos
 have hlt:=World.ownsRow.lt h.row g (by rw [e];rfl)
 have hrow:=h.row
 rw [e] at hrow
 have step:∀ k,k≤L.length→∃ R,GO w base w.heap.size (some ⟨g,0,none⟩) TC R ((L.take k).map fun x=>codeV x.l)∧∀ a∈gAs (some ⟨g,0,none⟩) TC.length R 0,∃ (i:Nat) (x:CV),i < k∧L[i]? =some x∧x.v.ownBlock=some a.block:=by
  intro k
  induction k with
  | zero=>intro _;exact ⟨[],GO.nil _ _ _ _ _,fun a ha=>by simp [gAs] at ha⟩
  | succ k ih=>
   intro hk
   obtain ⟨R,hR,hA⟩:=ih (by omega)
   obtain ⟨x,hx⟩:∃ x,L[k]? =some x:=⟨_,List.getElem?_eq_getElem (by omega)⟩
   obtain ⟨s,c,ev,vo⟩:=own_vo (h.inn k x hx) (fl5_len x.l)
   have tl:((L.take k).map fun x=>codeV x.l).length=k:=by simp;omega
   have ow:∀ a∈vAs ((⟨s,x.l.length,c⟩:VS).wide 5),x.v.ownBlock=some a.block:=fun a ha=>by rw [ev];exact vo.own ha
   refine ⟨R++[[.r ⟨s,x.l.length,c⟩ 5]],?_,fun a ha=>?_⟩
   ·have et:(L.take (k+1)).map (fun x=>codeV x.l)=(L.take k).map (fun x=>codeV x.l)++[codeV x.l]:=by rw [List.take_add_one,hx];simp
    rw [et]
    refine GO.push _ _ hR ⟨_,_,rfl⟩ rfl rfl (fun _ _ _ _ _ _ _ _ _ _ hf=>hf) (fun j f u hf hu=>?_) (fun x' e' hx' a ha g' o' hg'=>?_) ?_ (fun a ha ha'=>?_)
    ·match j,hf,hu with
     | 0,hf,hu=>
      simp at hf
      simp [codeV] at hu
      subst hf hu
      rw [tl]
      refine ⟨?_,⟨hlt.1,hlt.2⟩,vo⟩
      have q:=World.ownsRow.cellAt hrow k (by omega)
      rw [List.getElem?_map,hx] at q
      simp only [Option.map_some] at q
      rw [ev] at q
      simpa [adr,TC] using q
    ·simp at hx'
     obtain ⟨rfl,rfl⟩:=hx'
     injection hg' with hg'
     injection hg' with hg'
     intro eb
     refine ownType' (h.inn k x hx) hrow (by decide) (ow a ha) ?_
     rw [eb,← hg']
     rfl
    ·simp only [recAs,fAs,List.append_nil]
     exact vo.nodup
    ·simp only [recAs,fAs,List.append_nil] at ha'
     obtain ⟨i,z,hi,hz,hb⟩:=hA a ha
     exact h.sep i k z x _ hz hx (by omega) hb (ow a ha')
   ·rw [gAs_append] at ha
    rcases List.mem_append.1 ha with ha | ha
    ·obtain ⟨i,z,hi,hz,hb⟩:=hA a ha
     exact ⟨i,z,by omega,hz,hb⟩
    ·simp only [gAs,recAs,fAs,List.append_nil] at ha
     exact ⟨k,x,by omega,hx,ow a ha⟩
 obtain ⟨R,hR,-⟩:=step L.length (Nat.le_refl _)
 rw [List.take_length] at hR
 exact ⟨some ⟨g,0,none⟩,cap,R,e,hR⟩
theorem OwnKx117.go {w:World} {base:Nat} {v:Value} {L:List KV} (h:OwnKx117 w base v L):∃ s c R,v=.slice s L.length c∧GO w base w.heap.size s TK R (L.map fun x=>coreV x.d)∧∀ a∈gAs s TK.length R 0,v.ownBlock=some a.block∨∃ (i:Nat) (x:KV),L[i]? =some x∧(x.r.ownBlock=some a.block∨x.v.ownBlock=some a.block):=by
 rcases Nat.eq_zero_or_pos L.length with h0 | hpos
 ·obtain ⟨s,c,e⟩:=ownSl h.row
  rw [List.length_eq_zero_iff.1 h0]
  rw [h0] at e
  exact ⟨s,c,[],e,GO.nil _ _ _ _ _,fun a ha=>by simp [gAs] at ha⟩
 obtain ⟨g,cap,e,-⟩:=World.ownsRow.form h.row hpos
 have hlt:=World.ownsRow.lt h.row g (by rw [e];rfl)
 have hrow:=h.row
 rw [e] at hrow
 have step:∀ k,k≤L.length→∃ R,GO w base w.heap.size (some ⟨g,0,none⟩) TK R ((L.take k).map fun x=>coreV x.d)∧∀ a∈gAs (some ⟨g,0,none⟩) TK.length R 0,(∃ i j,i < k∧j < 4∧a=⟨g,i * 4+j,none⟩)∨∃ (i:Nat) (x:KV),i < k∧L[i]? =some x∧(x.r.ownBlock=some a.block∨x.v.ownBlock=some a.block):=by
  intro k
  induction k with
  | zero=>intro _;exact ⟨[],GO.nil _ _ _ _ _,fun a ha=>by simp [gAs] at ha⟩
  | succ k ih=>
   intro hk
   obtain ⟨R,hR,hA⟩:=ih (by omega)
   obtain ⟨x,hx⟩:∃ x,L[k]? =some x:=⟨_,List.getElem?_eq_getElem (by omega)⟩
   obtain ⟨i1,i2⟩:=h.inn k x hx
   obtain ⟨s,c,ev,vo⟩:=own_vo (size:=1) i1 (by simp)
   obtain ⟨s',c',ev',vo'⟩:=own_vo (size:=1) i2 (by simp)
   rw [wide_one] at vo vo'
   have tl:((L.take k).map fun x=>coreV x.d).length=k:=by simp;omega
   have ow:∀ a∈vAs (⟨s,x.d.regs.length,c⟩:VS),x.r.ownBlock=some a.block:=fun a ha=>by rw [ev];exact VO.own (e:=1) (by rw [wide_one];exact vo) (by rw [wide_one];exact ha)
   have ow':∀ a∈vAs (⟨s',x.d.vw.length,c'⟩:VS),x.v.ownBlock=some a.block:=fun a ha=>by rw [ev'];exact VO.own (e:=1) (by rw [wide_one];exact vo') (by rw [wide_one];exact ha)
   have far:∀ {u:Value} {l:List Int} {a:Addr},OwnN w base u l→u.ownBlock=some a.block→a.block≠g:=fun hu ha eb=>ownType' hu hrow (by decide) ha (by rw [eb];rfl)
   obtain ⟨fa,fb,fc,fd⟩:=flatK_at L k x hx
   have q:∀ j u,j < 4→(flatK L)[k * 4+j]? =some u→w.cell? ⟨g,k * 4+j,none⟩=some u:=fun j u hj hu=>by rw [World.ownsRow.cellAt hrow (k * 4+j) (by omega)];exact hu
   have ra:recAs (some ⟨g,0,none⟩) [.i,.r ⟨s,x.d.regs.length,c⟩ 1,.r ⟨s',x.d.vw.length,c'⟩ 1,.i] (k * TK.length)=⟨g,k * 4,none⟩::(vAs (⟨s,x.d.regs.length,c⟩:VS)++(vAs (⟨s',x.d.vw.length,c'⟩:VS)++[⟨g,k * 4+3,none⟩])):=by
    simp [recAs,fAs,wide_one,adr,TK]
   have et:(L.take (k+1)).map (fun x=>coreV x.d)=(L.take k).map (fun x=>coreV x.d)++[coreV x.d]:=by rw [List.take_add_one,hx];simp
   refine ⟨R++[[.i,.r ⟨s,x.d.regs.length,c⟩ 1,.r ⟨s',x.d.vw.length,c'⟩ 1,.i]],?_,fun a ha=>?_⟩
   ·rw [et]
    refine GO.push _ _ hR ⟨_,_,rfl⟩ rfl rfl (fun _ _ _ _ _ _ _ _ _ _ hf=>hf) (fun j f u hf hu=>?_) (fun x' e' hx' a ha g' o' hg'=>?_) ?_ (fun a ha ha'=>?_)
    ·rw [tl]
     match j,hf,hu with
     | 0,hf,hu=>
      simp at hf
      simp [coreV] at hu
      subst hf hu
      exact ⟨by simpa [adr,TK] using q 0 _ (by omega) fa,World.ownsRow.frozenAt hrow _,hlt.1,hlt.2⟩
     | 1,hf,hu=>
      simp at hf
      simp [coreV] at hu
      subst hf hu
      refine ⟨by have:=q 1 _ (by omega) fb;rw [ev] at this;simpa [adr,TK] using this,⟨hlt.1,hlt.2⟩,by rw [wide_one];exact vo⟩
     | 2,hf,hu=>
      simp at hf
      simp [coreV] at hu
      subst hf hu
      refine ⟨by have:=q 2 _ (by omega) fc;rw [ev'] at this;simpa [adr,TK] using this,⟨hlt.1,hlt.2⟩,by rw [wide_one];exact vo'⟩
     | 3,hf,hu=>
      simp at hf
      simp [coreV] at hu
      subst hf hu
      exact ⟨by simpa [adr,TK] using q 3 _ (by omega) fd,World.ownsRow.frozenAt hrow _,hlt.1,hlt.2⟩
    ·injection hg' with hg'
     injection hg' with hg'
     simp at hx'
     rw [← hg']
     rcases hx' with ⟨rfl,rfl⟩ | ⟨rfl,rfl⟩
     ·rw [wide_one] at ha
      exact far i1 (ow a ha)
     ·rw [wide_one] at ha
      exact far i2 (ow' a ha)
    ·rw [tl,ra]
     refine List.nodup_cons.2 ⟨fun hm=>?_,List.nodup_append.2 ⟨vo.nodup,List.nodup_append.2 ⟨vo'.nodup,by simp,fun a ha b hb eq=>?_⟩,fun a ha b hb eq=>?_⟩⟩
     ·rcases List.mem_append.1 hm with hm | hm
      ·exact far i1 (ow _ hm) rfl
      ·rcases List.mem_append.1 hm with hm | hm
       ·exact far i2 (ow' _ hm) rfl
       ·simp at hm
     ·simp at hb
      subst hb eq
      exact far i2 (ow' _ ha) rfl
     ·subst eq
      rcases List.mem_append.1 hb with hb | hb
      ·exact h.two k x _ hx (ow _ ha) (ow' _ hb)
      ·simp at hb
       subst hb
       exact far i1 (ow _ ha) rfl
    ·rw [tl,ra] at ha'
     have new:a.block=g∧(a=⟨g,k * 4,none⟩∨a=⟨g,k * 4+3,none⟩)∨(x.r.ownBlock=some a.block∨x.v.ownBlock=some a.block):=by
      rcases List.mem_cons.1 ha' with rfl | ha'
      ·exact .inl ⟨rfl,.inl rfl⟩
      ·rcases List.mem_append.1 ha' with ha' | ha'
       ·exact .inr (.inl (ow a ha'))
       ·rcases List.mem_append.1 ha' with ha' | ha'
        ·exact .inr (.inr (ow' a ha'))
        ·simp at ha'
         exact .inl ⟨by rw [ha'],.inr ha'⟩
     rcases hA a ha with ⟨i,j,hi,hj,e1⟩ | ⟨i,z,hi,hz,hb⟩
     ·rcases new with ⟨-,e2 | e2⟩ | hb
      ·rw [e1] at e2;simp at e2<;>omega
      ·rw [e1] at e2;simp at e2<;>omega
      ·rcases hb with hb | hb
       ·exact far i1 hb (by rw [e1])
       ·exact far i2 hb (by rw [e1])
     ·rcases new with ⟨e2,-⟩ | hb'
      ·obtain ⟨j1,j2⟩:=h.inn i z hz
       rcases hb with hb | hb
       ·exact far j1 hb e2
       ·exact far j2 hb e2
      ·exact h.sep i k z x _ hz hx (by omega) hb hb'
   ·rw [gAs_append] at ha
    rcases List.mem_append.1 ha with ha | ha
    ·rcases hA a ha with ⟨i,j,hi,hj,e1⟩ | ⟨i,z,hi,hz,hb⟩
     ·exact .inl ⟨i,j,by omega,hj,e1⟩
     ·exact .inr ⟨i,z,by omega,hz,hb⟩
    ·have hl:R.length=k:=by have:=hR.n;rw [tl] at this;exact this
     rw [hl] at ha
     simp only [gAs,List.append_nil,Nat.zero_add] at ha
     rw [ra] at ha
     rcases List.mem_cons.1 ha with e1 | ha
     ·exact .inl ⟨k,0,by omega,by omega,by rw [e1,Nat.add_zero]⟩
     ·rcases List.mem_append.1 ha with ha | ha
      ·exact .inr ⟨k,x,by omega,hx,.inl (ow a ha)⟩
      ·rcases List.mem_append.1 ha with ha | ha
       ·exact .inr ⟨k,x,by omega,hx,.inr (ow' a ha)⟩
       ·simp at ha
        exact .inl ⟨k,3,by omega,by omega,ha⟩
 obtain ⟨R,hR,hA⟩:=step L.length (Nat.le_refl _)
 rw [List.take_length] at hR
 refine ⟨some ⟨g,0,none⟩,cap,R,e,hR,fun a ha=>?_⟩
 rcases hA a ha with ⟨i,j,-,-,e1⟩ | ⟨i,z,-,hz,hb⟩
 ·left
  rw [e,e1]
  rfl
 ·exact .inr ⟨i,z,hz,hb⟩
theorem infoKo:∃ i,Try.prog.info? 93=some i∧i.zero=some (.agg #[.int .i64 0,.slice none 0 0,.slice none 0 0,.int .i64 0])∧i.size=4∧i.bytes=64:=⟨_,rfl,rfl,rfl,rfl⟩
theorem run_append_zeroS (w : World) (base : Nat) (v : Value) (l : List I5) (hown : OwnT5 w base v l) (s : Option Addr) (c : Nat) :
  (Builtin.append_ #[99,99] 99 #[v,.slice s 0 c]).run Try.prog w=.ok v w:=by
 obtain ⟨i0,hi,hz0,hz1,hz2⟩:=infoSt
 rcases hown.2 with ⟨rfl,-⟩ | ⟨g,cap,cur,rfl,_,_,hnc,_⟩
 ·cases s<;>simp [Builtin.append_,run_underlying Try.underlying99,sizeOf,typeInfo,hi,Builtin.lenOf,Builtin.firstCells,loadCells,loadCellsFrom,storeCells]
 ·cases s<;>simp [Builtin.append_,run_underlying Try.underlying99,sizeOf,typeInfo,hi,Builtin.lenOf,Builtin.firstCells,hnc,storeCells,loadCells,loadCellsFrom,storeCells]
theorem wp_copyS {o : Oper} {a : Act} {w : World} {K : Act → World → Prop} {Q : Exit → Act → World → Prop} (s x : Operand) (hty : o.type = 99) (ho : o.op = .call { callee := .builtin .append, args := #[s, x], argTypes := #[99, 99] })
  (base:Nat) (sv:Option Addr) (cv:Nat) (hs:a.eval s=.slice sv 0 cv) (hown:OwnT5 w base (.slice sv 0 cv) []) (sx:Option Addr) (c:Nat) (l:List I5) {lo hi:Nat} (hx:a.eval x=.slice sx l.length c) (hr:InsR w lo hi sx l) (hn:l.length≤1073741824) (hbase:base≤w.heap.size)
  (h:∀ s' c' w',OwnT5 w' base (.slice s' l.length c') l→Copied w w' sv cv base l.length s' c'→K (a.put o.dst (.slice s' l.length c')) w'):Oper.wp Try.prog o a w K Q:=by
 rcases Nat.eq_zero_or_pos l.length with h0 | hl
 ·have e:=List.length_eq_zero_iff.1 h0
  subst e
  have hrun:=run_append_zeroS w base _ _ hown sx c
  unfold Oper.wp
  simp at hx
  simp [execOp,ho,resolve,invoke,builtin,hs,hx,hty,hrun,Result.andThen]
  exact h sv cv w hown ⟨fun _ _ _=>rfl,Below.refl _ _,fun k hk=>.inr hk⟩
 ·rcases hr with rfl | ⟨g,off,rfl,h1,h2,hc⟩
  ·simp at hl
  ·obtain ⟨i0,hi0,hz0,hz1,hz2⟩:=infoSt
   refine wp_append_lies w s x 99 ho base 98 i0 _ 5 40 Try.underlying99 hi0 hz0 hz1 hz2 rfl (by decide) _ 0 _ hs hown ⟨g,off,none⟩ l.length c ((fl5 l).map (Value.int .i64)) hx (by rw [List.length_map,fl5_len]) (fun j u hj=>?_) (fun u hu=>by obtain ⟨z,-,rfl⟩:=List.mem_map.1 hu;rfl) hl (by unfold maxLen;omega) (by omega) hbase _ rfl ?_
   ·rw [List.getElem?_map] at hj
    obtain ⟨z,hz,rfl⟩:=Option.map_eq_some_iff.1 hj
    have hj':=(List.getElem?_eq_some_iff.1 hz).1
    rw [fl5_len] at hj'
    have q:=steps_cell hc j hj'
    rw [List.getD_eq_getElem?_getD,hz] at q
    have ea:Addr.add ⟨g,off,none⟩ j=⟨g,off+j,none⟩:=by
     by_cases h:j=0
     ·subst h;rfl
     ·simp [Addr.add,h]
    rw [ea]
    exact q
   intro g' cap w' q1 q2 q3 q4
   have hb:Below base w w':=Below.grown (Below.refl _ _) q2 hbase (fun j hj=>(World.ownsRow.lt hown _ hj).1)
   rw [Nat.zero_add]
   rw [Nat.zero_add] at q1
   refine h _ _ w' (by show w'.ownsRow base 98 5 _ l.length ((fl5 l).map (Value.int .i64));exact q1) ⟨fun k hk hne=>q2.block k hk (fun e=>hne e.symm),hb,fun k hk=>?_⟩
   injection hk with hk
   rcases q3 with q3 | q3
   ·exact .inr (by rw [q3];exact congrArg some hk)
   ·exact .inl (by have:g'=k:=hk;omega)
theorem app_copyS {ops : Array Oper} {rest : List Oper} {o : Oper} {a : Act} {Q : Exit → Act → World → Prop} (hgd : o.guard = none) (s x : Operand) (hty : o.type = 99) (ho : o.op = .call { callee := .builtin .append, args := #[s, x], argTypes := #[99, 99] }) (w : World)
  (base:Nat) (sv:Option Addr) (cv:Nat) (hs:a.eval s=.slice sv 0 cv) (hown:OwnT5 w base (.slice sv 0 cv) []) (sx:Option Addr) (c:Nat) (l:List I5) {lo hi:Nat} (hx:a.eval x=.slice sx l.length c) (hr:InsR w lo hi sx l) (hn:l.length≤1073741824) (hbase:base≤w.heap.size)
  (h:∀ s' c' w',OwnT5 w' base (.slice s' l.length c') l→Copied w w' sv cv base l.length s' c'→wpList Try.prog ops Q rest (a.put o.dst (.slice s' l.length c')) w'):wpList Try.prog ops Q (o::rest) a w:=
 wpList_plain hgd fun _ hK=>wp_copyS s x hty ho base sv cv hs hown sx c l hx hr hn hbase fun s' c' w' h1 h2=>hK _ _ (h s' c' w' h1 h2)
/- one more row of steps -/
structure PushedC (w w':World) (base:Nat) (v:Value) (L:List CV) (y:CV) (g cap:Nat):Prop where
 own:OwnC w' base (.slice (some ⟨g,0,none⟩) (L.length+1) cap) (L++[y])
 low:Below base w w'
theorem app_rowC {ops : Array Oper} {rest : List Oper} {o : Oper} {a : Act} {Q : Exit → Act → World → Prop} (hgd : o.guard = none) (s x : Operand) (ho : o.op = .call { callee := .builtin .append, args := #[s, x], argTypes := #[68, 68] })
  (w:World) (base:Nat) (v:Value) (L:List CV) (y:CV) (hs:a.eval s=v) (hown:OwnC w base v L) (hy:OwnT5 w base y.v y.l) (h1:y.v.oneCell'=true) (hx:a.eval x=.slice (some ⟨w.heap.size,0,none⟩) 1 1) (hn:L.length≤1073741824) (hbase:base≤w.heap.size)
  (hsep:∀ (i:Nat) (z:CV) (k:Nat),L[i]? =some z→y.v.ownBlock=some k→z.v.ownBlock≠some k)
  (h:∀ g cap w',PushedC w w' base v L y g cap→wpList Try.prog ops Q rest (a.put o.dst (.slice (some ⟨g,0,none⟩) (L.length+1) cap)) w'):
  wpList Try.prog ops Q (o::rest) a (w.alloc (.cells #[y.v] 99)):=by
 obtain ⟨i0,hi,hz0,hz1,hz2⟩:=infoCd
 have h1':(w.alloc (.cells #[y.v] 99)).ownsRow base 99 1 v L.length (L.map CV.v):=ownKeep' hown.row (fun k hk=>Below.heap_alloc _ _ _ (World.ownsRow.lt hown.row _ hk).2)
 refine wpList_append_lies _ hgd s x 68 ho base 99 i0 _ 1 24 Try.underlying68 hi hz0 hz1 hz2 rfl (by decide) v L.length _ hs h1' ⟨w.heap.size,0,none⟩ 1 1 [y.v] hx rfl (fun j u hj=>?_) (fun u hu=>by simp at hu;subst hu;exact h1) (by decide) (by unfold maxLen;omega) (by omega) (by simp;omega) _ rfl ?_
 ·match j,hj with
  | 0,hj=>simpa [Addr.add,go_sem] using hj
  | j+1,hj=>simp at hj
 intro g cap w' q1 q2 q3 q4
 have hb:Below base w w':=Below.grown (((Below.refl _ _).alloc hbase _)) q2 (by simp;omega) (fun j hj=>(World.ownsRow.lt h1' _ hj).1)
 have hf:∀ k,k < w.heap.size→v.ownBlock≠some k→w'.heap[k]? =w.heap[k]? :=fun k hk hne=>(q2.block k (by simp;omega) (fun e=>hne e.symm)).trans (Below.heap_alloc _ _ _ hk)
 exact h g cap w' ⟨OwnC.push hown hy hsep q1 hf,hb⟩
structure PushedK (w w':World) (base:Nat) (v:Value) (L:List KV) (y:KV) (g cap:Nat):Prop where
 own:OwnKx117 w' base (.slice (some ⟨g,0,none⟩) (L.length+1) cap) (L++[y])
 low:Below base w w'
 far:∀ k,k < w.heap.size→v.ownBlock≠some k→w'.heap[k]? =w.heap[k]?
theorem wp_recK {o : Oper} {a : Act} {K : Act → World → Prop} {Q : Exit → Act → World → Prop} (s x : Operand) (ho : o.op = .call { callee := .builtin .append, args := #[s, x], argTypes := #[69, 69] })
  (w:World) (base:Nat) (v:Value) (L:List KV) (y:KV) (hs:a.eval s=v) (hown:OwnKx117 w base v L) (hy:OwnN w base y.r y.d.regs∧OwnN w base y.v y.d.vw) (ht:∀ k,y.r.ownBlock=some k→y.v.ownBlock≠some k) (h1:y.r.oneCell'=true) (h2:y.v.oneCell'=true) (g0:Nat) (hg:g0=w.heap.size) (hx:a.eval x=.slice (some ⟨g0,0,none⟩) 1 1) (hn:L.length≤1073741824) (hbase:base≤w.heap.size)
  (hsep:∀ (i:Nat) (z:KV) (k:Nat),L[i]? =some z→(y.r.ownBlock=some k∨y.v.ownBlock=some k)→¬ (z.r.ownBlock=some k∨z.v.ownBlock=some k))
  (h:∀ g cap w',PushedK w w' base v L y g cap→K (a.put o.dst (.slice (some ⟨g,0,none⟩) (L.length+1) cap)) w'):
  Oper.wp Try.prog o a (w.alloc (.cells #[.int .i64 y.d.pc,y.r,y.v,.int .i64 y.d.st] 93)) K Q:=by
 subst hg
 obtain ⟨i0,hi,hz0,hz1,hz2⟩:=infoKo
 have h1':(w.alloc (.cells #[.int .i64 y.d.pc,y.r,y.v,.int .i64 y.d.st] 93)).ownsRow base 93 4 v L.length (flatK L):=ownKeep' hown.row (fun k hk=>Below.heap_alloc _ _ _ (World.ownsRow.lt hown.row _ hk).2)
 refine wp_append_lies _ s x 69 ho base 93 i0 _ 4 64 Try.underlying69 hi hz0 hz1 hz2 rfl (by decide) v L.length _ hs h1' ⟨w.heap.size,0,none⟩ 1 1 [.int .i64 y.d.pc,y.r,y.v,.int .i64 y.d.st] hx rfl (fun j u hj=>?_) (fun u hu=>by simp at hu;rcases hu with rfl | rfl | rfl | rfl;rfl;exact h1;exact h2;rfl) (by decide) (by unfold maxLen;omega) (by omega) (by simp;omega) _ rfl ?_
 ·match j,hj with
  | 0,hj=>simpa [Addr.add,go_sem] using hj
  | 1,hj=>simpa [Addr.add,go_sem] using hj
  | 2,hj=>simpa [Addr.add,go_sem] using hj
  | 3,hj=>simpa [Addr.add,go_sem] using hj
  | j+4,hj=>simp at hj
 intro g cap w' q1 q2 q3 q4
 have hb:Below base w w':=Below.grown (((Below.refl _ _).alloc hbase _)) q2 (by simp;omega) (fun j hj=>(World.ownsRow.lt h1' _ hj).1)
 have hf:∀ k,k < w.heap.size→v.ownBlock≠some k→w'.heap[k]? =w.heap[k]? :=fun k hk hne=>(q2.block k (by simp;omega) (fun e=>hne e.symm)).trans (Below.heap_alloc _ _ _ hk)
 exact h g cap w' ⟨OwnKx117.push hown hy ht hsep q1 hf,hb,hf⟩
theorem step_recK {ops : Array Oper} {o : Oper} {a : Act} {K : Act → World → Prop} {Q : Exit → Act → World → Prop} {E : Prop} (hgd : o.guard = none) (s x : Operand) (ho : o.op = .call { callee := .builtin .append, args := #[s, x], argTypes := #[69, 69] })
  (w:World) (base:Nat) (v:Value) (L:List KV) (y:KV) (hs:a.eval s=v) (hown:OwnKx117 w base v L) (hy:OwnN w base y.r y.d.regs∧OwnN w base y.v y.d.vw) (ht:∀ k,y.r.ownBlock=some k→y.v.ownBlock≠some k) (h1:y.r.oneCell'=true) (h2:y.v.oneCell'=true) (g0:Nat) (hg:g0=w.heap.size) (hx:a.eval x=.slice (some ⟨g0,0,none⟩) 1 1) (hn:L.length≤1073741824) (hbase:base≤w.heap.size)
  (hsep:∀ (i:Nat) (z:KV) (k:Nat),L[i]? =some z→(y.r.ownBlock=some k∨y.v.ownBlock=some k)→¬ (z.r.ownBlock=some k∨z.v.ownBlock=some k))
  (h:∀ g cap w',PushedK w w' base v L y g cap→K (a.put o.dst (.slice (some ⟨g,0,none⟩) (L.length+1) cap)) w'):
  if Region.wanted o (yielded ops a.tmps)=true then Oper.wp Try.prog o a (w.alloc (.cells #[.int .i64 y.d.pc,y.r,y.v,.int .i64 y.d.st] 93)) K Q else E:=by
 have hw:Region.wanted o (yielded ops a.tmps)=true:=by simp [Region.wanted,hgd]
 rw [if_pos hw]
 exact wp_recK s x ho w base v L y hs hown hy ht h1 h2 g0 hg hx hn hbase hsep h
set_option maxHeartbeats 1000000 in
theorem l8Codes_any (s : Option Addr) (c lo hi : Nat) (l : List (List I5)) (w : World) (h : CsR w lo hi s l) (hB : hi ≤ w.heap.size) (hl : l.length + szC l ≤ 1048576) :
  Calls Try.prog 71 #[.slice s l.length c] w fun e w'=>∃ v L,e=.returned v∧L.map CV.l=l∧OwnC w' w.heap.size v L∧Below w.heap.size w w':=by
 have H:Hid (CsR w lo hi s l):=h
 have HV:Hid (∀ (i:Nat) (x:List I5),l[i]? =some x→x.length≤1048576):=fun i x hx=>by have:=szC_at l i x hx;omega
 clear h
 go_enter Try.func71,Try.ntmps71
 go_wp2
 go_loopw [3,4] (fun v i wr=>∃ (k:Nat) (L:List CV),k≤l.length∧i=.int .i64 k∧L.length=k∧L.map CV.l=l.take k∧OwnC wr w.heap.size v L∧Below w.heap.size w wr) (fun _ i _=>l.length - (intOf i).toNat)
 case atStart=>exact ⟨0,[],Nat.zero_le _,rfl,rfl,rfl,⟨World.ownsRow_lit w #[] 0 (Nat.le_refl _) (by unfold maxLen;omega) rfl,fun i x hx=>by simp at hx,fun i j x y k hx=>by simp at hx⟩,(Below.refl _ _).alloc (Nat.le_refl _) _⟩
 case round=>
  obtain ⟨k,L,hk,rfl,hL,hM,ho,hb⟩:=hrel
  obtain ⟨sv,cv,ev⟩:=ownSl ho.row
  rw [hL] at ev
  subst ev
  have HO:Hid (OwnC wr w.heap.size (.slice sv k cv) L):=ho
  have HB:Hid (Below w.heap.size w wr):=hb
  have HL:Hid (L.length=k):=hL
  have HM:Hid (L.map CV.l=l.take k):=hM
  have hz:=hb.size
  clear ho hb hL hM
  by_cases hlt:k < l.length
  ·obtain ⟨x,hx⟩:∃ x,l[k]? =some x:=⟨_,List.getElem?_eq_getElem hlt⟩
   obtain ⟨g,o,s1,c1,e1,q1,q2,q3,q5⟩:=(H.out.keep (Keep.of_below HB.out hB)).at hx
   subst e1
   have hv:=HV.out k x hx
   have HI:Hid (InsR wr lo hi s1 x):=q5
   have HX:Hid (l[k]? =some x):=hx
   clear q5 hx
   have b0:(0:Int)≤(k:Int):=by omega
   have b1:(k:Int) < (l.length:Int):=by omega
   have zg:g < wr.heap.size:=by omega
   go_wp2_with (first | (at_builtin;refine app_copyS rfl _ _ rfl rfl (wr.alloc (.cells #[] 98)) wr.heap.size (some ⟨wr.heap.size,0,none⟩) 0 rfl (World.ownsRow_lit wr #[] 0 (Nat.le_refl _) (by unfold maxLen;omega) rfl) s1 c1 x (by rfl) (HI.out.keep (Keep.of_below ((Below.refl wr.heap.size wr).alloc (Nat.le_refl _) _) (by omega))) (by omega) (by simp) ?_;intro s5 c5 w5 ho5 hc5;have O5:=(show Hid (OwnT5 w5 wr.heap.size (.slice s5 x.length c5) x) from ho5);have K5:=(show Hid (Below wr.heap.size wr w5) from ((Below.refl wr.heap.size wr).alloc (Nat.le_refl _) _).trans hc5.low);have Z5:=(show Hid (∀ k,(Value.slice s5 x.length c5).ownBlock=some k→wr.heap.size≤k) from fun k hk=>(World.ownsRow.lt ho5 _ hk).1);clear ho5 hc5) | (at_builtin;refine app_rowC rfl _ _ rfl w5 w.heap.size (.slice sv k cv) L ⟨x,.slice s5 x.length c5⟩ rfl (HO.out.below K5.out) (ownLow' O5.out (by omega)) rfl (by rfl) (by have:=HL.out;omega) (by have:=K5.out.size;omega) (fun i z kk hz1 hk1 hk2=>by have h1:=Z5.out kk hk1;have h2:=(World.ownsRow.lt (HO.out.inn i z hz1) _ hk2).2;omega) ?_;intro g6 c6 w6 hp6;have P6:=(show Hid (OwnC w6 w.heap.size (.slice (some ⟨g6,0,none⟩) (L.length+1) c6) (L++[⟨x,.slice s5 x.length c5⟩])) from hp6.own);have K6:=(show Hid (Below w.heap.size w w6) from (HB.out.trans (K5.out.mono hz)).trans hp6.low);clear hp6))
   go_roundw
   case rel=>
    refine ⟨k+1,L++[⟨x,.slice s5 x.length c5⟩],by omega,by go_num,by simp [HL.out],?_,P6.out,K6.out⟩
    rw [List.map_append,HM.out,List.take_add_one,HX.out]
    rfl
   case measure=>simp [intOf];omega
  ·go_wp2
   go_ret
   have e:k=l.length:=by omega
   have hm:=HM.out
   rw [List.take_of_length_le (by omega)] at hm
   exact ⟨_,L,rfl,hm,HO.out,HB.out⟩
end
section
set_option linter.unusedSimpArgs false
set_option linter.unusedVariables false
set_option maxRecDepth 100000
open Go.RowKit
theorem baseV_cases (l:List Int) (n:Int):baseV l n=-1∨∃ b r k:Nat,n=(k:Int)∧k < l.length∧baseV l n=(b:Int)∧l.getD k 0=(r:Int)∧1≤r∧r≤4∧b+r+4≤24:=by
 by_cases h:capsR l=true∧sumC l≤24∧0≤n∧n < l.length
 ·right
  have e:baseV l n=sumC (l.take n.toNat):=by unfold baseV;rw [if_pos h]
  obtain ⟨h1,h2,h3,h4⟩:=h
  obtain ⟨k,rfl⟩:∃ k:Nat,n=(k:Int):=⟨n.toNat,by omega⟩
  rw [Int.toNat_natCast] at e
  have hk:k < l.length:=by omega
  have a1:=capsR_at h1 hk
  have a2:=sumC_next h1 hk
  have a3:=sumC_len _ (capsR_take k h1)
  refine ⟨(sumC (l.take k)).toNat,(l.getD k 0).toNat,k,rfl,hk,?_,?_,?_,?_,?_⟩<;>omega
 ·left
  unfold baseV
  rw [if_neg h]
theorem ne_dec (x:Int):(x !=0)=decide (x≠0):=by by_cases h:x=0<;>simp [h]
def lockB (m:List (List WD)) (l:List Int) (n:Int):Bool:=decide (0≤baseV l n)&&memB m&&decide (lastV m (baseV l n).toNat≠0)
set_option maxHeartbeats 4000000 in
theorem implLocked_any (s s1 : Option Addr) (c c1 lo hi lo1 hi1 : Nat) (m : List (List WD)) (l : List Int) (n : Int) (w : World) (h : MemR w lo hi s m) (h1 : IntsR w lo1 hi1 s1 l) (hB : hi ≤ w.heap.size) (hB1 : hi1 ≤ w.heap.size) (hl : l.length ≤ 2000000) (hm : m.length + szR m ≤ 2000000) :
  Calls Try.prog 12 #[.agg #[.slice s m.length c],.slice s1 l.length c1,.int .i64 n] w fun e w'=>e=.returned (.bool (lockB m l n))∧Below w.heap.size w w':=by
 have H:Hid (MemR w lo hi s m):=h
 have H1:Hid (IntsR w lo1 hi1 s1 l):=h1
 clear h h1
 go_enter Try.func12,Try.ntmps12
 go_wp2_with fail
 obtain ⟨W,hW,bx,kb,zb⟩:=Bo1.new w (.slice s m.length c) 30
 rw [hW]
 clear hW
 have KW:Hid (Below w.heap.size w W):=kb
 have RM:Hid (∀ X,Below W.heap.size W X→MemR X lo hi s m):=fun X hX=>(H.out.keep (Keep.of_below KW.out hB)).keep (Keep.of_below hX (by omega))
 have RB:Hid (∀ X,Below W.heap.size W X→X.cell? ⟨w.heap.size,0,none⟩=some (.slice s m.length c)):=fun X hX=>(hX.cell (p:=⟨w.heap.size,0,none⟩) (by show w.heap.size < _;omega)).trans bx.c0
 have R1:Hid (IntsR W lo1 hi1 s1 l):=H1.out.keep (Keep.of_below KW.out hB1)
 clear bx kb
 refine (implBase_any s1 c1 lo1 hi1 l n W R1.out (by omega) hl).mono ?_
 rintro e w1 ⟨rfl,hb1⟩
 have z1:=hb1.size
 have p1:=RB.out _ hb1
 have K1:Hid (Below W.heap.size W w1):=hb1
 clear hb1
 rcases baseV_cases l n with hb | ⟨b,r,k,hn,hk,hb,hr,r1,r4,fit⟩
 ·have HE:Hid (lockB m l n=false):=by show _=_;unfold lockB;rw [hb];rfl
  rw [hb]
  clear hb
  go_wp2
  go_ret
  exact ⟨by rw [HE.out];rfl,KW.out.trans (K1.out.mono (by omega))⟩
 ·have HE:Hid (lockB m l n=(memB m&&decide (lastV m b≠0))):=by show _=_;unfold lockB;rw [hb,decide_eq_true (Int.natCast_nonneg b),Int.toNat_natCast,Bool.true_and]
  rw [hb]
  have hbe:((b:Int)== -1)=false:=by rw [beq_eq_false_iff_ne];omega
  clear hb
  have mk:=implMemoryOk_any s c lo hi m w1 (RM.out _ K1.out) (by omega) hm
  by_cases hmb:memB m=true
  ·rw [hmb] at mk HE
   have HMB:Hid (memB m=true):=hmb
   clear hmb
   go_wp2_with (first | (go_at_call 24;refine mk.mono ?_;rintro e w2 ⟨rfl,hb2⟩;have k2:Below W.heap.size W w2:=K1.out.trans (hb2.mono z1);have p2:=RB.out _ k2) | (go_at_call 25;refine (cellsFrom_is _ _).mono ?_;rintro e w3 ⟨rfl,hw3⟩))
   obtain ⟨V,hV,bx,kb,zv⟩:=Bo1.new w2 (.int .i64 b) 3
   rw [hV]
   clear hV hw3
   have z2:=hb2.size
   have KV:Hid (Below W.heap.size W V):=k2.trans (kb.mono (by omega))
   have q0:=bx.c0
   have q1:=RB.out _ KV.out
   have MV:Hid (MemR V.drew lo hi s m):=RM.out _ KV.out.drew
   have hdr:V.drew.heap.size=V.heap.size:=rfl
   clear p1 p2 k2 hb2 kb bx
   generalize hlv:lastV m b=lv at HE
   have HLV:Hid (lastV m b=lv):=hlv
   clear hlv
   go_region_held3 (fun w'=>w'.cell? ⟨w.heap.size,0,none⟩=some (.slice s m.length c)∧w'.cell? ⟨w2.heap.size,0,none⟩=some (.int .i64 b)) (go_keep) (first | (go_at_call 42;refine (cell_is w2.heap.size b 0 _ (by assumption) (by omega) (by omega) (by omega) (by omega)).mono ?_;rintro e w5 ⟨rfl,hw5⟩;subst w5) | (go_at_call 27;refine (lastOf_is s c lo hi m b _ _ MV.out (by omega) HMB.out (by omega) (by omega)).mono ?_;rintro e w6 ⟨rfl,hw6⟩;subst w6;rw [HLV.out]))
   go_wp2
   go_ret
   exact ⟨by rw [HE.out,Bool.true_and,← ne_dec];rfl,KW.out.trans ((KV.out.trans ((((Below.refl V.heap.size V).alloc (Nat.le_refl _) _).drew).mono (by have:=KV.out.size;omega))).mono (by omega))⟩
  ·have hmb':memB m=false:=by simpa using hmb
   rw [hmb'] at mk HE
   clear hmb hmb'
   go_wp2_with (go_at_call 24;refine mk.mono ?_;rintro e w2 ⟨rfl,hb2⟩;have k2:Below W.heap.size W w2:=K1.out.trans (hb2.mono z1))
   go_ret
   exact ⟨by rw [HE.out];rfl,KW.out.trans (k2.mono (by omega))⟩
set_option maxHeartbeats 4000000 in
theorem specLocked_any (s s1 : Option Addr) (c c1 lo hi lo1 hi1 : Nat) (m : List (List WD)) (l : List Int) (n : Int) (w : World) (h : MemR w lo hi s m) (h1 : IntsR w lo1 hi1 s1 l) (hB : hi ≤ w.heap.size) (hB1 : hi1 ≤ w.heap.size) (hl : l.length ≤ 2000000) (hm : m.length + szR m ≤ 2000000) :
  Calls Try.prog 13 #[.agg #[.slice s m.length c],.slice s1 l.length c1,.int .i64 n] w fun e w'=>e=.returned (.bool (lockB m l n))∧Below w.heap.size w w':=by
 have H:Hid (MemR w lo hi s m):=h
 have H1:Hid (IntsR w lo1 hi1 s1 l):=h1
 clear h h1
 go_enter Try.func13,Try.ntmps13
 go_wp2_with fail
 obtain ⟨W,hW,bx,kb,zb⟩:=Bo1.new w (.slice s m.length c) 30
 rw [hW]
 clear hW
 have KW:Hid (Below w.heap.size w W):=kb
 have RM:Hid (∀ X,Below W.heap.size W X→MemR X lo hi s m):=fun X hX=>(H.out.keep (Keep.of_below KW.out hB)).keep (Keep.of_below hX (by omega))
 have RB:Hid (∀ X,Below W.heap.size W X→X.cell? ⟨w.heap.size,0,none⟩=some (.slice s m.length c)):=fun X hX=>(hX.cell (p:=⟨w.heap.size,0,none⟩) (by show w.heap.size < _;omega)).trans bx.c0
 have R1:Hid (IntsR W lo1 hi1 s1 l):=H1.out.keep (Keep.of_below KW.out hB1)
 clear bx kb
 refine (specBase_any s1 c1 lo1 hi1 l n W R1.out (by omega) hl).mono ?_
 rintro e w1 ⟨rfl,hb1⟩
 have z1:=hb1.size
 have p1:=RB.out _ hb1
 have K1:Hid (Below W.heap.size W w1):=hb1
 clear hb1
 rcases baseV_cases l n with hb | ⟨b,r,k,hn,hk,hb,hr,r1,r4,fit⟩
 ·have HE:Hid (lockB m l n=false):=by show _=_;unfold lockB;rw [hb];rfl
  rw [hb]
  clear hb
  go_wp2
  go_ret
  exact ⟨by rw [HE.out];rfl,KW.out.trans (K1.out.mono (by omega))⟩
 ·have HE:Hid (lockB m l n=(memB m&&decide (lastV m b≠0))):=by show _=_;unfold lockB;rw [hb,decide_eq_true (Int.natCast_nonneg b),Int.toNat_natCast,Bool.true_and]
  rw [hb]
  clear hb
  have mk:=specMemoryOk_any s c lo hi m w1 (RM.out _ K1.out) (by omega) hm
  by_cases hmb:memB m=true
  ·rw [hmb] at mk HE
   have HMB:Hid (memB m=true):=hmb
   clear hmb
   generalize hlv:lastV m b=lv at HE
   have HLV:Hid (lastV m b=lv):=hlv
   clear hlv
   go_wp2_with (first | (go_at_call 31;refine mk.mono ?_;rintro e w2 ⟨rfl,hb2⟩;have k2:Below W.heap.size W w2:=K1.out.trans (hb2.mono z1);have p2:=RB.out _ k2) | (go_at_call 32;refine (l9Last_is s c lo hi m b _ _ (RM.out _ k2) (by have:=k2.size;omega) HMB.out (by omega) rfl).mono ?_;rintro e w6 ⟨rfl,hw6⟩;subst w6;rw [HLV.out]))
   go_ret
   exact ⟨by rw [HE.out,Bool.true_and,← ne_dec];rfl,KW.out.trans ((k2.trans (((Below.refl w2.heap.size w2).alloc (Nat.le_refl _) _).mono k2.size)).mono (by omega))⟩
  ·have hmb':memB m=false:=by simpa using hmb
   rw [hmb'] at mk HE
   clear hmb hmb'
   go_wp2_with (go_at_call 31;refine mk.mono ?_;rintro e w2 ⟨rfl,hb2⟩;have k2:Below W.heap.size W w2:=K1.out.trans (hb2.mono z1))
   go_ret
   exact ⟨by rw [HE.out];rfl,KW.out.trans (k2.mono (by omega))⟩
end
end Go.Proofs.Ytkhjhibigldcgaa
