/- StepOk of the specification (package spec), at every step and every count of places, in every world: it returns what the plain law says; it makes memory, and turns none. No condition. Lists of steps: when code is right; the laws' counting and comparing of lists. Conditions: lists of at most 1048576 steps where they are compared. Machines as they lie in memory: rows of code, of cores, a memory, notes; how great they are. No condition. CodeOk of the program, at every list of at most 1048576 steps. Code and cores held against their rules by the program. Conditions: they are counted. The notes and the cores of a machine held against their rules by the program. Conditions: they are counted. The model of a step of a machine that is right, and what being right tells of the core that goes on. No condition. A step keeps a machine right: views and memories. No condition. Memories written over with running numbers, place by place, and looked at again. Conditions: fewer than 2^20 + 101 integers. Rows of records, each of integers and of rows of integers, as they lie in memory with the places of their integers; how marks go over them. No condition. How great memories are counted. No condition but the lists' own bounds. How great machines are counted. No condition but the lists' own bounds. How the laws copy a list of steps into new memory that may be written. Conditions: lists of at most 1048576 steps. Rows of steps, of cores and of notes as rows of records; boxes of four cells that may be written. No condition. How the laws copy machines into new memory that may be written. Conditions: they are counted. How the laws copy cores into new memory that may be written. Conditions: they are counted. Machines that may be written, and how the laws copy one. Conditions: it is counted. Boxes of four cells that a law keeps. No condition. -/
import Derived.Test.YtkhjhibigldcgaaGreatBG00
import Derived.Test.YtkhjhibigldcgaaGreatBG09
import Derived.Test.YtkhjhibigldcgaaGreatBC7SpB
import Derived.Test.YtkhjhibigldcgaaGreatBC7SpC
import Derived.Test.YtkhjhibigldcgaaGreatBC7SpD
import Derived.Test.YtkhjhibigldcgaaGreatBC7SpE
import Derived.Test.YtkhjhibigldcgaaGreatBG01
import Derived.Deep.RegionHeld3
import Derived.Test.YtkhjhibigldcgaaGreatBG07
import Derived.Test.YtkhjhibigldcgaaGreatBG08
import Derived.Deep.RegionWith
import Derived.Test.YtkhjhibigldcgaaGreatBG06
import Derived.Test.YtkhjhibigldcgaaGreatBG04
import Derived.Test.YtkhjhibigldcgaaGreatBG05
namespace Go.Proofs.YtkhjhibigldcgaaGreat
section
set_option linter.unusedSimpArgs false
set_option linter.unusedVariables false
set_option maxRecDepth 100000
open Go.RowKit
theorem specStepOk_any (op r a b n pl:Int) (w:World):Calls Tryz.prog 59 #[.agg #[.int .i64 op,.int .i64 r,.int .i64 a,.int .i64 b,.int .i64 n],.int .i64 pl] w fun e w'=>e=.returned (.bool (Plain.stepB op r a b n pl))∧Below w.heap.size w w':=by
 have no:∀ {e:Ending} {w':World},Plain.stepB op r a b n pl=false→e=.returned (.bool false)∧Below w.heap.size w w'→e=.returned (.bool (Plain.stepB op r a b n pl))∧Below w.heap.size w w':=fun h h'=>by rw [h];exact h'
 by_cases e5:op=5
 ·subst e5
  cases h1:Plain.inB r 0 7
  ·exact (specBadR_5 r a b n pl w h1).mono fun e w' h=>no (by simp [Plain.inB] at h1;simp [Plain.stepB];omega) h
  cases h2:Plain.inB b 0 7
  ·exact (specBadB_5 r a b n pl w h1 h2).mono fun e w' h=>no (by simp [Plain.inB] at h2;simp [Plain.stepB];omega) h
  cases h3:Plain.inB a 0 7
  ·by_cases h4:a=-1
   ·subst h4
    exact specGood_5m r b n pl w h1 h2
   ·exact (specBadA_5 r a b n pl w h1 h2 h3 (by simpa using h4)).mono fun e w' h=>no (by simp [Plain.inB] at h3;simp [Plain.stepB];omega) h
  ·exact specGood_5x37 r a b n pl w h1 h2 h3
 by_cases e6:op=6
 ·subst e6
  cases h1:Plain.inB r 0 7
  ·exact (specBadR_6 r a b n pl w h1).mono fun e w' h=>no (by simp [Plain.inB] at h1;simp [Plain.stepB];omega) h
  cases h2:Plain.inB b 0 7
  ·exact (specBadB_6 r a b n pl w h1 h2).mono fun e w' h=>no (by simp [Plain.inB] at h2;simp [Plain.stepB];omega) h
  cases h3:Plain.inB a 0 7
  ·by_cases h4:a=-1
   ·subst h4
    exact specGood_6m r b n pl w h1 h2
   ·exact (specBadA_6 r a b n pl w h1 h2 h3 (by simpa using h4)).mono fun e w' h=>no (by simp [Plain.inB] at h3;simp [Plain.stepB];omega) h
  ·exact specGood_6x37 r a b n pl w h1 h2 h3
 by_cases e7:op=7
 ·subst e7
  cases h1:Plain.inB r 0 7
  ·exact (specBadR_7 r a b n pl w h1).mono fun e w' h=>no (by simp [Plain.inB] at h1;simp [Plain.stepB];omega) h
  cases h2:Plain.inB b 0 7
  ·exact (specBadB_7 r a b n pl w h1 h2).mono fun e w' h=>no (by simp [Plain.inB] at h2;simp [Plain.stepB];omega) h
  cases h3:Plain.inB a 0 7
  ·by_cases h4:a=-1
   ·subst h4
    exact specGood_7m r b n pl w h1 h2
   ·exact (specBadA_7 r a b n pl w h1 h2 h3 (by simpa using h4)).mono fun e w' h=>no (by simp [Plain.inB] at h3;simp [Plain.stepB];omega) h
  ·exact specGood_7x38 r a b n pl w h1 h2 h3
 have o5:(op==5)=false:=by simpa using e5
 have o6:(op==6)=false:=by simpa using e6
 have o7:(op==7)=false:=by simpa using e7
 cases h1:Plain.inB r 0 7
 ·exact (specBadR_x op r a b n pl w o5 o6 o7 h1).mono fun e w' h=>no (by simp [Plain.inB] at h1;simp [Plain.stepB];omega) h
 cases h2:Plain.inB b 0 7
 ·exact (specBadB_x op r a b n pl w o5 o6 o7 h1 h2).mono fun e w' h=>no (by simp [Plain.inB] at h2;simp [Plain.stepB];omega) h
 cases h3:Plain.inB a 0 7
 ·exact (specBadA_x op r a b n pl w o5 o6 o7 h1 h2 h3).mono fun e w' h=>no (by simp [Plain.inB] at h3;simp [Plain.stepB];omega) h
 by_cases e1:op=1
 ·subst e1;exact specGood_1x36 r a b n pl w h1 h2 h3
 by_cases e2:op=2
 ·subst e2;exact specGood_2x36 r a b n pl w h1 h2 h3
 by_cases e3:op=3
 ·subst e3;exact specGood_3x36 r a b n pl w h1 h2 h3
 by_cases e4:op=4
 ·subst e4;exact specGood_4x36 r a b n pl w h1 h2 h3
 by_cases e8:op=8
 ·subst e8;exact specGood_8x38 r a b n pl w h1 h2 h3
 by_cases e9:op=9
 ·subst e9;exact specGood_9x38 r a b n pl w h1 h2 h3
 by_cases e10:op=10
 ·subst e10;exact specGood_10x39 r a b n pl w h1 h2 h3
 by_cases e11:op=11
 ·subst e11;exact specGood_11x39 r a b n pl w h1 h2 h3
 by_cases e12:op=12
 ·subst e12;exact specGood_12x39 r a b n pl w h1 h2 h3
 by_cases e13:op=13
 ·subst e13;exact specGood_13x39 r a b n pl w h1 h2 h3
 exact specGood_0x39 op r a b n pl w (by simpa using e1) (by simpa using e2) (by simpa using e3) (by simpa using e4) (by simpa using e5) (by simpa using e6) (by simpa using e7) (by simpa using e8) (by simpa using e9) (by simpa using e10) (by simpa using e11) (by simpa using e12) (by simpa using e13) h1 h2 h3
end
section
set_option linter.unusedSimpArgs false
set_option linter.unusedVariables false
set_option maxRecDepth 100000
open Go.RowKit
def stX (x:I5) (pl:Int):Bool:=Plain.stepB x.o x.r x.a x.b x.n pl
def lastBx44 (l:List I5):Bool:=Plain.endB (l.getD (l.length - 1) z5).o
def codeB (l:List I5):Bool:=decide (∀ i,i < l.length→stX (l.getD i z5) l.length=true)&&(decide (1≤l.length∧l.length≤800)&&lastBx44 l)
theorem code_no {l:List I5} {k:Nat} (hk:k < l.length) (h:stX (l.getD k z5) l.length=false):codeB l=false:=by
 have:decide (∀ i,i < l.length→stX (l.getD i z5) l.length=true)=false:=by
  rw [decide_eq_false_iff_not]
  intro H
  rw [H k hk] at h
  cases h
 unfold codeB
 rw [this]
 rfl
theorem code_all {l:List I5} (h:∀ i,i < l.length→stX (l.getD i z5) l.length=true):codeB l=(decide (1≤l.length∧l.length≤800)&&lastBx44 l):=by
 unfold codeB
 rw [decide_eq_true h]
 simp
theorem code_short {l:List I5} (h:Plain.inB (l.length:Int) 1 800=false):codeB l=false:=by
 have:decide (1≤l.length∧l.length≤800)=false:=by
  rw [decide_eq_false_iff_not]
  simp [Plain.inB] at h
  omega
 unfold codeB
 rw [this]
 simp
end
section
set_option linter.unusedSimpArgs false
set_option linter.unusedVariables false
set_option maxRecDepth 100000
open Go.RowKit
def CR (w:World) (lo hi g off:Nat) (l:List I5):Prop:=∃ s c,w.cell? ⟨g,off,none⟩=some (.slice s l.length c)∧InsR w lo hi s l
def CsR (w:World) (lo hi:Nat) (s:Option Addr) (l:List (List I5)):Prop:=
 l=[]∨∃ g off,s=some ⟨g,off,none⟩∧lo≤g∧g < hi∧∀ (i:Nat) (x:List I5),l[i]? =some x→CR w lo hi g (off+i) x
structure KD where
 pc:Int
 regs:List Int
 vw:List Int
 st:Int
def KR (w:World) (lo hi g off:Nat) (k:KD):Prop:=
 ∃ s c s' c',w.cell? ⟨g,off,none⟩=some (.int .i64 k.pc)∧w.cell? ⟨g,off+1,none⟩=some (.slice s k.regs.length c)∧w.cell? ⟨g,off+2,none⟩=some (.slice s' k.vw.length c')∧w.cell? ⟨g,off+3,none⟩=some (.int .i64 k.st)∧IntsR w lo hi s k.regs∧IntsR w lo hi s' k.vw
def KsR (w:World) (lo hi:Nat) (s:Option Addr) (l:List KD):Prop:=
 l=[]∨∃ g off,s=some ⟨g,off,none⟩∧lo≤g∧g < hi∧∀ (i:Nat) (k:KD),l[i]? =some k→KR w lo hi g (off+i * 4) k
structure MD where
 codes:List (List I5)
 cores:List KD
 mem:List (List WD)
 tr:List ND
def MaR (w:World) (lo hi:Nat) (s1 s2 s3 s4:Option Addr) (d:MD):Prop:=CsR w lo hi s1 d.codes∧KsR w lo hi s2 d.cores∧MemR w lo hi s3 d.mem∧NtsR w lo hi s4 d.tr
theorem CR.keep {w w':World} {lo hi g off:Nat} {l:List I5} (h:CR w lo hi g off l) (hb:Keep lo hi w w') (hc:∀ j,w'.cell? ⟨g,j,none⟩=w.cell? ⟨g,j,none⟩):CR w' lo hi g off l:=by
 obtain ⟨s,c,h1,h2⟩:=h
 exact ⟨s,c,(hc _).trans h1,h2.keep hb⟩
theorem CR.mono {w:World} {lo hi lo' hi' g off:Nat} {l:List I5} (h:CR w lo hi g off l) (p:lo'≤lo) (q:hi≤hi'):CR w lo' hi' g off l:=by
 obtain ⟨s,c,h1,h2⟩:=h
 exact ⟨s,c,h1,h2.mono p q⟩
theorem KR.keep {w w':World} {lo hi g off:Nat} {k:KD} (h:KR w lo hi g off k) (hb:Keep lo hi w w') (hc:∀ j,w'.cell? ⟨g,j,none⟩=w.cell? ⟨g,j,none⟩):KR w' lo hi g off k:=by
 obtain ⟨s,c,s',c',h1,h2,h3,h4,h5,h6⟩:=h
 exact ⟨s,c,s',c',(hc _).trans h1,(hc _).trans h2,(hc _).trans h3,(hc _).trans h4,h5.keep hb,h6.keep hb⟩
theorem KR.mono {w:World} {lo hi lo' hi' g off:Nat} {k:KD} (h:KR w lo hi g off k) (p:lo'≤lo) (q:hi≤hi'):KR w lo' hi' g off k:=by
 obtain ⟨s,c,s',c',h1,h2,h3,h4,h5,h6⟩:=h
 exact ⟨s,c,s',c',h1,h2,h3,h4,h5.mono p q,h6.mono p q⟩
theorem CsR.keep {w w':World} {lo hi:Nat} {s:Option Addr} {l:List (List I5)} (h:CsR w lo hi s l) (hb:Keep lo hi w w'):CsR w' lo hi s l:=by
 rcases h with h | ⟨g,o,hs,h1,h2,hc⟩
 ·exact .inl h
 ·exact .inr ⟨g,o,hs,h1,h2,fun i r hi=>(hc i r hi).keep hb (fun j=>hb.cell h1 h2)⟩
theorem CsR.mono {w:World} {lo hi lo' hi':Nat} {s:Option Addr} {l:List (List I5)} (h:CsR w lo hi s l) (p:lo'≤lo) (q:hi≤hi'):CsR w lo' hi' s l:=by
 rcases h with h | ⟨g,o,hs,h1,h2,hc⟩
 ·exact .inl h
 ·exact .inr ⟨g,o,hs,by omega,by omega,fun i r hi=>(hc i r hi).mono p q⟩
theorem KsR.keep {w w':World} {lo hi:Nat} {s:Option Addr} {l:List (KD)} (h:KsR w lo hi s l) (hb:Keep lo hi w w'):KsR w' lo hi s l:=by
 rcases h with h | ⟨g,o,hs,h1,h2,hc⟩
 ·exact .inl h
 ·exact .inr ⟨g,o,hs,h1,h2,fun i r hi=>(hc i r hi).keep hb (fun j=>hb.cell h1 h2)⟩
theorem KsR.mono {w:World} {lo hi lo' hi':Nat} {s:Option Addr} {l:List (KD)} (h:KsR w lo hi s l) (p:lo'≤lo) (q:hi≤hi'):KsR w lo' hi' s l:=by
 rcases h with h | ⟨g,o,hs,h1,h2,hc⟩
 ·exact .inl h
 ·exact .inr ⟨g,o,hs,by omega,by omega,fun i r hi=>(hc i r hi).mono p q⟩
theorem CsR.at {w:World} {lo hi:Nat} {s:Option Addr} {l:List (List I5)} (h:CsR w lo hi s l) {i:Nat} {x:List I5} (hi':l[i]? =some x):∃ g off s' c',s=some ⟨g,off,none⟩∧lo≤g∧g < hi∧w.cell? ⟨g,off+i,none⟩=some (.slice s' x.length c')∧InsR w lo hi s' x:=by
 rcases h with rfl | ⟨g,o,hs,a,b,hc⟩
 ·simp at hi'
 ·obtain ⟨s',c',e1,e2⟩:=hc i x hi'
  exact ⟨g,o,s',c',hs,a,b,e1,e2⟩
theorem KsR.at {w:World} {lo hi:Nat} {s:Option Addr} {l:List KD} (h:KsR w lo hi s l) {i:Nat} {x:KD} (hi':l[i]? =some x):∃ g off s1 c1 s2 c2,s=some ⟨g,off,none⟩∧lo≤g∧g < hi∧w.cell? ⟨g,off+i * 4,none⟩=some (.int .i64 x.pc)∧w.cell? ⟨g,off+i * 4+1,none⟩=some (.slice s1 x.regs.length c1)∧w.cell? ⟨g,off+i * 4+2,none⟩=some (.slice s2 x.vw.length c2)∧w.cell? ⟨g,off+i * 4+3,none⟩=some (.int .i64 x.st)∧IntsR w lo hi s1 x.regs∧IntsR w lo hi s2 x.vw:=by
 rcases h with rfl | ⟨g,o,hs,a,b,hc⟩
 ·simp at hi'
 ·obtain ⟨s',c',s2,c2,e⟩:=hc i x hi'
  exact ⟨g,o,s',c',s2,c2,hs,a,b,e⟩
theorem MaR.keep {w w':World} {lo hi:Nat} {s1 s2 s3 s4:Option Addr} {d:MD} (h:MaR w lo hi s1 s2 s3 s4 d) (hb:Keep lo hi w w'):MaR w' lo hi s1 s2 s3 s4 d:=⟨h.1.keep hb,h.2.1.keep hb,h.2.2.1.keep hb,h.2.2.2.keep hb⟩
theorem MaR.mono {w:World} {lo hi lo' hi':Nat} {s1 s2 s3 s4:Option Addr} {d:MD} (h:MaR w lo hi s1 s2 s3 s4 d) (p:lo'≤lo) (q:hi≤hi'):MaR w lo' hi' s1 s2 s3 s4 d:=⟨h.1.mono p q,h.2.1.mono p q,h.2.2.1.mono p q,h.2.2.2.mono p q⟩
/- how great they are -/
def szC:List (List I5)→Nat
 | []=>0
 | x::r=>x.length+szC r
def szK:List KD→Nat
 | []=>0
 | x::r=>x.regs.length+x.vw.length+szK r
theorem szC_take:∀ (l:List (List I5)) (k:Nat) (x:List I5),l[k]? =some x→szC (l.take (k+1))=szC (l.take k)+x.length
 | [],k,x,h=>by simp at h
 | y::r,0,x,h=>by simp at h;subst h;simp [szC]
 | y::r,k+1,x,h=>by
  have:=szC_take r k x (by simpa using h)
  simp [szC,this]
  omega
theorem szK_take:∀ (l:List KD) (k:Nat) (x:KD),l[k]? =some x→szK (l.take (k+1))=szK (l.take k)+(x.regs.length+x.vw.length)
 | [],k,x,h=>by simp at h
 | y::r,0,x,h=>by simp at h;subst h;simp [szK]
 | y::r,k+1,x,h=>by
  have:=szK_take r k x (by simpa using h)
  simp [szK,this]
  omega
theorem szC_at:∀ (l:List (List I5)) (k:Nat) (x:List I5),l[k]? =some x→x.length≤szC l
 | [],k,x,h=>by simp at h
 | y::r,0,x,h=>by simp at h;subst h;simp [szC]
 | y::r,k+1,x,h=>by
  have:=szC_at r k x (by simpa using h)
  simp [szC]
  omega
theorem szK_at:∀ (l:List KD) (k:Nat) (x:KD),l[k]? =some x→x.regs.length+x.vw.length≤szK l
 | [],k,x,h=>by simp at h
 | y::r,0,x,h=>by simp at h;subst h;simp [szK]
 | y::r,k+1,x,h=>by
  have:=szK_at r k x (by simpa using h)
  simp [szK]
  omega
structure MaFits (d:MD):Prop where
 c:d.codes.length+szC d.codes≤1048576
 k:d.cores.length+szK d.cores≤1048576
 m:d.mem.length+szR d.mem≤2000000
 t:d.tr.length≤2000000
def MaSz (d:MD):Nat:=d.codes.length+szC d.codes+(d.cores.length+szK d.cores)+(d.mem.length+szR d.mem)+d.tr.length
end
section
set_option linter.unusedSimpArgs false
set_option linter.unusedVariables false
set_option maxRecDepth 100000
open Go.RowKit
end
section
set_option linter.unusedSimpArgs false
set_option linter.unusedVariables false
set_option maxRecDepth 100000
open Go.RowKit
def codesB (l:List (List I5)):Bool:=decide (1≤l.length∧l.length≤4)&&l.all codeB
def coreB (m:List (List WD)) (k:KD) (n:Nat):Bool:=decide (k.regs.length=8)&&(Plain.inB k.st 0 2&&(Plain.oneB k.pc n&&viewB m k.vw))
def coresB (m:List (List WD)) (cs:List KD) (l:List (List I5)):Bool:=decide (cs.length=l.length)&&(cs.zip l).all (fun x=>coreB m x.1 x.2.length)
def trB (l:List ND) (n:Nat):Bool:=decide (l.length≤4000)&&l.all (fun t=>Plain.oneB t.who n)
theorem all_yes {α:Type} {p:α→Bool} {l:List α} (h:∀ (i:Nat) (t:α),l[i]? =some t→p t=true):l.all p=true:=by
 rw [List.all_eq_true]
 intro x hx
 obtain ⟨i,hi,e⟩:=List.getElem_of_mem hx
 exact h i x (by rw [List.getElem?_eq_getElem hi,e])
def machB (d:MD):Bool:=codesB d.codes&&(coresB d.mem d.cores d.codes&&(trB d.tr d.cores.length&&memB d.mem))
end
section
set_option linter.unusedSimpArgs false
set_option linter.unusedVariables false
set_option maxRecDepth 100000
open Go.RowKit
def wI (x:Int):Int:=IntKind.i64.wrap x
def regA (k:KD) (i:Int):Int:=k.regs.getD i.toNat 0
def setR (k:KD) (r v:Int):KD:={ k with regs:=k.regs.set r.toNat v }
def putK (d:MD) (who:Nat) (k:KD):MD:={ d with cores:=d.cores.set who k }
/- the cell that a step names -/
def cellM (k:KD) (s:I5):Int:=if s.o≠8∧0≤s.a then wI (s.n+regA k s.a) else s.n
def ldJ (m:List (List WD)) (l:List Int) (c:Nat) (late:Int):Nat:=(mx (l.getD c 0) (((m.getD c []).length:Int) - 1 - mx late 0)).toNat
def ldX (m:List (List WD)) (l:List Int) (c:Nat) (late:Int):WD:=(m.getD c []).getD (ldJ m l c late) ⟨0,[]⟩
def ldW (m:List (List WD)) (l:List Int) (c:Nat) (late:Int) (hold:Bool):List Int:=if hold=true then joinL (l.set c (ldJ m l c late)) (ldX m l c late).vw else l.set c (ldJ m l c late)
def stM (m:List (List WD)) (l:List Int) (c:Nat) (z:Int) (b:Bool):List (List WD):=m.set c (m.getD c []++[⟨z,toldL l c (m.getD c []).length b⟩])
def stW (m:List (List WD)) (l:List Int) (c:Nat):List Int:=l.set c ((m.getD c []).length:Int)
/- where a core goes on; beyond its code it faults -/
def goM (d:MD) (who:Nat) (k:KD) (n:Nat) (p:Int):MD:=if p < (n:Int) then putK d who { k with pc:=p } else putK d who { k with st:=2 }
def memS (d:MD) (late:Int) (k:KD) (s:I5) (c:Nat):MD×KD:=
 if s.o=5 then (d,{ k with regs:=k.regs.set s.r.toNat (ldX d.mem k.vw c late).v,vw:=ldW d.mem k.vw c late false })
 else if s.o=8 then ({ d with mem:=stM d.mem (ldW d.mem k.vw c 0 true) c (regA k s.b) true },{ k with regs:=k.regs.set s.r.toNat (ldX d.mem k.vw c 0).v,vw:=stW d.mem (ldW d.mem k.vw c 0 true) c })
 else ({ d with mem:=stM d.mem k.vw c (regA k s.b) (decide (s.o=7)) },{ k with vw:=stW d.mem k.vw c })
def stepAt (d:MD) (who:Nat) (late:Int) (k:KD) (n:Nat) (s:I5):MD×Int:=
 if s.o=1 then (goM d who (setR k s.r s.n) n (k.pc+1),0)
 else if s.o=2 then (goM d who (setR k s.r (wI (regA k s.a+regA k s.b))) n (k.pc+1),0)
 else if s.o=3 then (goM d who (setR k s.r (wI (regA k s.a - regA k s.b))) n (k.pc+1),0)
 else if s.o=4 then (goM d who (setR k s.r (if regA k s.a < regA k s.b then 1 else 0)) n (k.pc+1),0)
 else if s.o=9 then (if d.tr.length=4000 then (d,3) else (goM { d with tr:=d.tr++[⟨who,regA k s.a⟩] } who k n (k.pc+1),0))
 else if s.o=10 then (goM d who k n s.n,0)
 else if s.o=11 then (goM d who k n (if regA k s.a=0 then s.n else k.pc+1),0)
 else if s.o=12 then (putK d who { k with st:=1 },0)
 else if s.o=13 then (putK d who { k with st:=2 },0)
 else if 0≤cellM k s∧cellM k s≤23 then
  (if s.o≠5∧(d.mem.getD (cellM k s).toNat []).length=4000 then (d,3)
   else (goM (memS d late k s (cellM k s).toNat).1 who (memS d late k s (cellM k s).toNat).2 n (k.pc+1),0))
 else (putK d who { k with st:=2 },0)
/- a step by a pick: 2: nobody such, 3: it does not run -/
def stepM (d:MD) (who late:Int):MD×Int:=
 if 0≤who∧who < (d.cores.length:Int) then
  (match d.cores[who.toNat]?,d.codes[who.toNat]? with
   | some k,some code=>if k.st=0 then stepAt d who.toNat late k code.length (code.getD k.pc.toNat z5) else (d,3)
   | _,_=>(d,3))
 else (d,2)
/- what a right machine tells of a core -/
structure At8 (d:MD) (who:Nat) (k:KD) (code:List I5) (s:I5):Prop where
 hk:d.cores[who]? =some k
 hc:d.codes[who]? =some code
 hs:code[k.pc.toNat]? =some s
 hz:code.getD k.pc.toNat z5=s
 pc0:0≤k.pc
 pcl:k.pc < (code.length:Int)
 n1:1≤code.length
 n8:code.length≤800
 regs:k.regs.length=8
 vw:viewB d.mem k.vw=true
 st0:0≤k.st
 st2:k.st≤2
 ok:stX s code.length=true
 mem:memB d.mem=true
 tr:d.tr.length≤4000
theorem mach_len {d:MD} (h:machB d=true):d.cores.length=d.codes.length:=by
 unfold machB coresB at h
 simp only [Bool.and_eq_true,decide_eq_true_eq] at h
 exact h.2.1.1
theorem mach_at {d:MD} (h:machB d=true) {who:Nat} (hw:who < d.cores.length):∃ k code s,At8 d who k code s:=by
 have hl:=mach_len h
 unfold machB at h
 rw [Bool.and_eq_true,Bool.and_eq_true,Bool.and_eq_true] at h
 obtain ⟨hc,hk,ht,hm⟩:=h
 obtain ⟨k,ek⟩:∃ k,d.cores[who]? =some k:=⟨_,List.getElem?_eq_getElem hw⟩
 obtain ⟨code,ec⟩:∃ c,d.codes[who]? =some c:=⟨_,List.getElem?_eq_getElem (by omega)⟩
 have hz:(d.cores.zip d.codes)[who]? =some (k,code):=by rw [List.getElem?_zip_eq_some];exact ⟨ek,ec⟩
 unfold coresB at hk
 rw [Bool.and_eq_true,List.all_eq_true] at hk
 have q:=hk.2 _ (List.mem_of_getElem? hz)
 unfold coreB at q
 simp only [Bool.and_eq_true,decide_eq_true_eq] at q
 obtain ⟨q1,q2,q3,q4⟩:=q
 have cb:codeB code=true:=by
  unfold codesB at hc
  rw [Bool.and_eq_true,List.all_eq_true] at hc
  exact hc.2 _ (List.mem_of_getElem? ec)
 unfold codeB at cb
 simp only [Bool.and_eq_true,decide_eq_true_eq] at cb
 obtain ⟨c1,c2,-⟩:=cb
 unfold Plain.oneB at q3
 unfold Plain.inB at q2
 rw [decide_eq_true_eq] at q2 q3
 have hp:k.pc.toNat < code.length:=by omega
 obtain ⟨s,es⟩:∃ s,code[k.pc.toNat]? =some s:=⟨_,List.getElem?_eq_getElem hp⟩
 have ez:code.getD k.pc.toNat z5=s:=by rw [List.getD_eq_getElem?_getD,es];rfl
 have hs:=c1 _ hp
 rw [ez] at hs
 unfold trB at ht
 rw [Bool.and_eq_true,decide_eq_true_eq] at ht
 exact ⟨k,code,s,ek,ec,es,ez,q3.1,q3.2,c2.1,c2.2,q1,q4,q2.1,q2.2,hs,hm,ht.1⟩
theorem stepM_at {d:MD} {who:Nat} {k:KD} {code:List I5} {s:I5} (h:At8 d who k code s) (late:Int) (hr:k.st=0):stepM d who late=stepAt d who late k code.length s:=by
 have hw:who < d.cores.length:=by
  have:=h.hk
  rw [List.getElem?_eq_some_iff] at this
  exact this.1
 unfold stepM
 rw [if_pos (by omega),Int.toNat_natCast,h.hk,h.hc]
 show (if k.st=0 then _ else _)=_
 rw [if_pos hr,h.hz]
theorem stepM_over {d:MD} {who:Nat} {k:KD} {code:List I5} {s:I5} (h:At8 d who k code s) (late:Int) (hr:¬ k.st=0):stepM d who late=(d,3):=by
 have hw:who < d.cores.length:=by
  have:=h.hk
  rw [List.getElem?_eq_some_iff] at this
  exact this.1
 unfold stepM
 rw [if_pos (by omega),Int.toNat_natCast,h.hk,h.hc]
 show (if k.st=0 then _ else _)=_
 rw [if_neg hr]
theorem stepM_none {d:MD} {who:Int} (late:Int) (h:¬ (0≤who∧who < (d.cores.length:Int))):stepM d who late=(d,2):=by
 unfold stepM
 rw [if_neg h]
end
section
set_option linter.unusedSimpArgs false
set_option linter.unusedVariables false
set_option maxRecDepth 100000
open Go.RowKit
theorem viewB_iff {m:List (List WD)} {l:List Int}:viewB m l=true↔l.length=m.length∧∀ i,i < l.length→0≤l.getD i 0∧l.getD i 0 < ((m.getD i []).length:Int):=by unfold viewB;rw [decide_eq_true_eq]
theorem viewB_grow {m m':List (List WD)} {l:List Int} (h:viewB m l=true) (hn:m'.length=m.length) (hg:∀ i,(m.getD i []).length≤(m'.getD i []).length):viewB m' l=true:=by
 rw [viewB_iff] at h ⊢
 refine ⟨by omega,fun i hi=>?_⟩
 have:=h.2 i hi
 have:=hg i
 omega
theorem getD_setI {l:List Int} {k i:Nat} {v:Int} (hk:k < l.length):(l.set k v).getD i 0=if i=k then v else l.getD i 0:=by
 rw [List.getD_eq_getElem?_getD,List.getElem?_set]
 by_cases e:k=i
 ·subst e
  simp [hk]
 ·rw [if_neg e,if_neg (fun q=>e q.symm),List.getD_eq_getElem?_getD]
theorem getD_setM {m:List (List WD)} {k i:Nat} {v:List WD} (hk:k < m.length):(m.set k v).getD i []=if i=k then v else m.getD i []:=by
 rw [List.getD_eq_getElem?_getD,List.getElem?_set]
 by_cases e:k=i
 ·subst e
  simp [hk]
 ·rw [if_neg e,if_neg (fun q=>e q.symm),List.getD_eq_getElem?_getD]
theorem memB_at {m:List (List WD)} (h:memB m=true) {i:Nat} (hi:i < 24):m.length=24∧∃ r,m[i]? =some r∧m.getD i []=r∧1≤r.length∧r.length≤4000∧∀ x∈r,viewB m x.vw=true:=by
 unfold memB at h
 rw [Bool.and_eq_true,decide_eq_true_eq,List.all_eq_true] at h
 obtain ⟨r,hr⟩:∃ r,m[i]? =some r:=⟨_,List.getElem?_eq_getElem (by omega)⟩
 have q:=h.2 r (List.mem_of_getElem? hr)
 unfold rowB at q
 rw [Bool.and_eq_true,decide_eq_true_eq,List.all_eq_true] at q
 exact ⟨h.1,r,hr,by rw [List.getD_eq_getElem?_getD,hr];rfl,q.1.1,q.1.2,q.2⟩
theorem memB_of {m:List (List WD)} (h24:m.length=24) (h:∀ i,i < 24→1≤(m.getD i []).length∧(m.getD i []).length≤4000∧∀ x∈m.getD i [],viewB m x.vw=true):memB m=true:=by
 unfold memB
 rw [Bool.and_eq_true,decide_eq_true_eq,List.all_eq_true]
 refine ⟨h24,fun r hr=>?_⟩
 obtain ⟨i,hi,e⟩:=List.mem_iff_getElem.1 hr
 have q:=h i (by omega)
 rw [show m.getD i []=r by rw [List.getD_eq_getElem?_getD,List.getElem?_eq_getElem hi,e];rfl] at q
 unfold rowB
 rw [Bool.and_eq_true,decide_eq_true_eq,List.all_eq_true]
 exact ⟨⟨q.1,q.2.1⟩,q.2.2⟩
theorem ldJ_lt {m:List (List WD)} {l:List Int} {c:Nat} (late:Int) (hm:memB m=true) (hv:viewB m l=true) (hc:c < 24):ldJ m l c late < (m.getD c []).length∧mx (l.getD c 0) (((m.getD c []).length:Int) - 1 - mx late 0)=(ldJ m l c late:Int):=by
 obtain ⟨h24,r,-,er,n1,-,-⟩:=memB_at hm hc
 rw [viewB_iff] at hv
 have q:=hv.2 c (by omega)
 unfold ldJ
 rw [er] at q ⊢
 unfold mx
 split<;>split<;>omega
theorem ldX_at {m:List (List WD)} {l:List Int} {c:Nat} (late:Int) (hm:memB m=true) (hv:viewB m l=true) (hc:c < 24):∃ r,m[c]? =some r∧r[ldJ m l c late]? =some (ldX m l c late)∧viewB m (ldX m l c late).vw=true:=by
 obtain ⟨h24,r,hr,er,n1,-,hx⟩:=memB_at hm hc
 have hj:=(ldJ_lt late hm hv hc).1
 rw [er] at hj
 have e:r[ldJ m l c late]? =some (ldX m l c late):=by
  unfold ldX
  rw [er,List.getD_eq_getElem?_getD,List.getElem?_eq_getElem hj]
  rfl
 exact ⟨r,hr,e,hx _ (List.mem_of_getElem? e)⟩
theorem ldW_ok {m:List (List WD)} {l:List Int} {c:Nat} (late:Int) (hold:Bool) (hm:memB m=true) (hv:viewB m l=true) (hc:c < 24):viewB m (ldW m l c late hold)=true:=by
 obtain ⟨h24,-⟩:=memB_at hm hc
 have hj:=(ldJ_lt late hm hv hc).1
 obtain ⟨r,hr,e,hx⟩:=ldX_at late hm hv hc
 have hs:viewB m (l.set c (ldJ m l c late))=true:=by
  rw [viewB_iff] at hv ⊢
  refine ⟨by rw [List.length_set];exact hv.1,fun i hi=>?_⟩
  rw [List.length_set] at hi
  rw [getD_setI (by omega)]
  split
  ·rename_i q;subst q;omega
  ·exact hv.2 i hi
 unfold ldW
 split
 ·rw [viewB_iff] at hs hx ⊢
  have hl:(joinL (l.set c (ldJ m l c late)) (ldX m l c late).vw).length=m.length:=by unfold joinL;rw [List.length_zipWith];omega
  refine ⟨hl,fun i hi=>?_⟩
  have a:=hs.2 i (by omega)
  have b:=hx.2 i (by omega)
  have ej:(joinL (l.set c (ldJ m l c late)) (ldX m l c late).vw).getD i 0=mx ((l.set c (ldJ m l c late)).getD i 0) ((ldX m l c late).vw.getD i 0):=by
   have h1:i < (l.set c (ldJ m l c late)).length:=by omega
   have h2:i < (ldX m l c late).vw.length:=by omega
   unfold joinL
   simp only [List.getD_eq_getElem?_getD,List.getElem?_zipWith,List.getElem?_eq_getElem h1,List.getElem?_eq_getElem h2,Option.getD_some]
  rw [ej]
  generalize (l.set c (ldJ m l c late)).getD i 0=p at a
  generalize (ldX m l c late).vw.getD i 0=q at b
  unfold mx
  split<;>omega
 ·exact hs
theorem stM_ok {m:List (List WD)} {l:List Int} {c:Nat} (z:Int) (b:Bool) (hm:memB m=true) (hv:viewB m l=true) (hc:c < 24) (hf:¬ (m.getD c []).length=4000):memB (stM m l c z b)=true∧viewB (stM m l c z b) (stW m l c)=true∧∀ v,viewB m v=true→viewB (stM m l c z b) v=true:=by
 obtain ⟨h24,r,hr,er,n1,n4,hx⟩:=memB_at hm hc
 have hcm:c < m.length:=by omega
 have hn:(stM m l c z b).length=m.length:=by unfold stM;rw [List.length_set]
 have hg:∀ i,((stM m l c z b).getD i [])=if i=c then r++[⟨z,toldL l c r.length b⟩] else m.getD i []:=fun i=>by unfold stM;rw [getD_setM hcm,er]
 have grow:∀ v,viewB m v=true→viewB (stM m l c z b) v=true:=fun v h=>viewB_grow h hn (fun i=>by
  rw [hg]
  split
  ·rename_i q;subst q;rw [er];simp
  ·exact Nat.le_refl _)
 have pos:∀ i,i < 24→0 < ((stM m l c z b).getD i []).length:=fun i hi=>by
  rw [hg]
  split
  ·simp
  ·obtain ⟨-,r',-,e',n',-⟩:=memB_at hm hi;rw [e'];omega
 have hvw:=hv
 rw [viewB_iff] at hvw
 have hst:viewB (stM m l c z b) (l.set c (r.length:Int))=true:=by
  have hgv:=grow l hv
  rw [viewB_iff] at hgv ⊢
  refine ⟨by rw [List.length_set];exact hgv.1,fun i hi=>?_⟩
  rw [List.length_set] at hi
  rw [getD_setI (by omega)]
  split
  ·rename_i q
   subst q
   rw [hg,if_pos rfl]
   simp
   omega
  ·exact hgv.2 i hi
 have htold:viewB (stM m l c z b) (toldL l c r.length b)=true:=by
  unfold toldL
  split
  ·exact hst
  ·rw [viewB_iff]
   refine ⟨by rw [List.length_set,List.length_replicate,hn,h24],fun i hi=>?_⟩
   rw [List.length_set,List.length_replicate] at hi
   rw [getD_setI (by rw [List.length_replicate];exact hc)]
   split
   ·rename_i q
    subst q
    rw [hg,if_pos rfl]
    simp
    omega
   ·have:=pos i hi
    rw [show (List.replicate 24 (0:Int)).getD i 0=0 by rw [List.getD_eq_getElem?_getD,List.getElem?_replicate];split<;>rfl]
    omega
 refine ⟨memB_of (by omega) (fun i hi=>?_),by unfold stW;rw [er];exact hst,grow⟩
 rw [hg]
 split
 ·rename_i q
  subst q
  rw [er] at hf
  refine ⟨by simp,by simp;omega,fun x hx'=>?_⟩
  rw [List.mem_append,List.mem_singleton] at hx'
  rcases hx' with h | h
  ·exact grow _ (hx x h)
  ·subst h;exact htold
 ·obtain ⟨-,r',-,e',n',n'',hx'⟩:=memB_at hm hi
  rw [e']
  exact ⟨n',n'',fun x h=>grow _ (hx' x h)⟩
/- a machine, one of its cores turned -/
theorem coresB_iff {m:List (List WD)} {cs:List KD} {l:List (List I5)}:coresB m cs l=true↔cs.length=l.length∧∀ (i:Nat) (k:KD) (c:List I5),cs[i]? =some k→l[i]? =some c→coreB m k c.length=true:=by
 unfold coresB
 rw [Bool.and_eq_true,decide_eq_true_eq,List.all_eq_true]
 constructor
 ·rintro ⟨h,q⟩
  refine ⟨h,fun i k c hk hc=>q (k,c) (List.mem_of_getElem? (i:=i) ?_)⟩
  rw [List.getElem?_zip_eq_some]
  exact ⟨hk,hc⟩
 ·rintro ⟨h,q⟩
  refine ⟨h,fun x hx=>?_⟩
  obtain ⟨i,hi,e⟩:=List.mem_iff_getElem.1 hx
  have e':(cs.zip l)[i]? =some x:=by rw [List.getElem?_eq_getElem hi,e]
  rw [List.getElem?_zip_eq_some] at e'
  exact q i x.1 x.2 e'.1 e'.2
theorem coreB_iff {m:List (List WD)} {k:KD} {n:Nat}:coreB m k n=true↔k.regs.length=8∧(0≤k.st∧k.st≤2)∧(0≤k.pc∧k.pc < (n:Int))∧viewB m k.vw=true:=by
 unfold coreB Plain.inB Plain.oneB
 rw [Bool.and_eq_true,Bool.and_eq_true,Bool.and_eq_true,decide_eq_true_eq,decide_eq_true_eq,decide_eq_true_eq]
theorem machB_iff {d:MD}:machB d=true↔codesB d.codes=true∧coresB d.mem d.cores d.codes=true∧trB d.tr d.cores.length=true∧memB d.mem=true:=by
 unfold machB
 rw [Bool.and_eq_true,Bool.and_eq_true,Bool.and_eq_true]
theorem keep_core {d:MD} {who:Nat} {k k':KD} {code:List I5} {s:I5} (h:machB d=true) (ha:At8 d who k code s) (m':List (List WD)) (tr':List ND) (hm:memB m'=true) (hg:∀ v,viewB d.mem v=true→viewB m' v=true) (ht:trB tr' d.cores.length=true) (hk:coreB m' k' code.length=true):machB (putK { d with mem:=m',tr:=tr' } who k')=true:=by
 rw [machB_iff] at h ⊢
 obtain ⟨h1,h2,-,-⟩:=h
 rw [coresB_iff] at h2
 refine ⟨h1,?_,by show trB tr' (d.cores.set who k').length=true;rw [List.length_set];exact ht,hm⟩
 show coresB m' (d.cores.set who k') d.codes=true
 rw [coresB_iff]
 refine ⟨by rw [List.length_set];exact h2.1,fun i x c hx hc=>?_⟩
 rw [List.getElem?_set] at hx
 by_cases e:who=i
 ·subst e
  rw [if_pos rfl] at hx
  split at hx
  ·injection hx with hx
   subst hx
   rw [ha.hc] at hc
   injection hc with hc
   subst hc
   exact hk
  ·cases hx
 ·rw [if_neg e] at hx
  have q:=h2.2 i x c hx hc
  rw [coreB_iff] at q ⊢
  exact ⟨q.1,q.2.1,q.2.2.1,hg _ q.2.2.2⟩
theorem keep_go {d:MD} {who:Nat} {k k':KD} {code:List I5} {s:I5} (h:machB d=true) (ha:At8 d who k code s) (m':List (List WD)) (tr':List ND) (p:Int) (hm:memB m'=true) (hg:∀ v,viewB d.mem v=true→viewB m' v=true) (ht:trB tr' d.cores.length=true) (hr:k'.regs.length=8) (hs:k'.st=k.st) (hpc:k'.pc=k.pc) (hv:viewB m' k'.vw=true) (hp:0≤p):machB (goM { d with mem:=m',tr:=tr' } who k' code.length p)=true:=by
 have q0:=ha.pc0
 have q1:=ha.pcl
 have q2:=ha.st0
 have q3:=ha.st2
 unfold goM
 split
 ·rename_i hlt
  refine keep_core h ha m' tr' hm hg ht ?_
  rw [coreB_iff]
  exact ⟨hr,by show 0≤k'.st∧k'.st≤2;omega,⟨hp,hlt⟩,hv⟩
 ·refine keep_core h ha m' tr' hm hg ht ?_
  rw [coreB_iff]
  exact ⟨hr,⟨by show (0:Int)≤2;omega,by show (2:Int)≤2;omega⟩,by show 0≤k'.pc∧k'.pc < _;omega,hv⟩
set_option maxHeartbeats 2000000 in
theorem stepAt_ok {d:MD} {who:Nat} {k:KD} {code:List I5} {s:I5} (late:Int) (h:machB d=true) (ha:At8 d who k code s):machB (stepAt d who late k code.length s).1=true:=by
 have hm:=ha.mem
 have ht:trB d.tr d.cores.length=true:=(machB_iff.1 h).2.2.1
 have q0:=ha.pc0
 have id:∀ v,viewB d.mem v=true→viewB d.mem v=true:=fun _ q=>q
 have hst:∀ st',0≤st'→st'≤2→machB (putK d who { k with st:=st' })=true:=fun st' a b=>keep_core h ha d.mem d.tr hm id ht (by rw [coreB_iff];exact ⟨ha.regs,⟨a,b⟩,⟨ha.pc0,ha.pcl⟩,ha.vw⟩)
 have hreg:∀ (r v:Int),machB (goM d who (setR k r v) code.length (k.pc+1))=true:=fun r v=>keep_go h ha d.mem d.tr (k.pc+1) hm id ht (by unfold setR;rw [List.length_set];exact ha.regs) rfl rfl ha.vw (by omega)
 have hw:who < d.cores.length:=by
  have:=ha.hk
  rw [List.getElem?_eq_some_iff] at this
  exact this.1
 have hok:=ha.ok
 unfold stX Plain.stepB at hok
 rw [decide_eq_true_eq] at hok
 unfold stepAt
 by_cases e1:s.o=1
 ·rw [if_pos e1];exact hreg _ _
 rw [if_neg e1]
 by_cases e2:s.o=2
 ·rw [if_pos e2];exact hreg _ _
 rw [if_neg e2]
 by_cases e3:s.o=3
 ·rw [if_pos e3];exact hreg _ _
 rw [if_neg e3]
 by_cases e4:s.o=4
 ·rw [if_pos e4];exact hreg _ _
 rw [if_neg e4]
 by_cases e9:s.o=9
 ·rw [if_pos e9]
  by_cases hf:d.tr.length=4000
  ·rw [if_pos hf];exact h
  ·rw [if_neg hf]
   have htr:=ha.tr
   refine keep_go h ha d.mem (d.tr++[⟨who,regA k s.a⟩]) (k.pc+1) hm id ?_ ha.regs rfl rfl ha.vw (by omega)
   unfold trB at ht ⊢
   rw [Bool.and_eq_true,decide_eq_true_eq] at ht ⊢
   refine ⟨by rw [List.length_append];simp;omega,?_⟩
   rw [List.all_append,ht.2]
   simp [Plain.oneB]
   omega
 rw [if_neg e9]
 by_cases e10:s.o=10
 ·rw [if_pos e10]
  exact keep_go h ha d.mem d.tr s.n hm id ht ha.regs rfl rfl ha.vw (by omega)
 rw [if_neg e10]
 by_cases e11:s.o=11
 ·rw [if_pos e11]
  exact keep_go h ha d.mem d.tr _ hm id ht ha.regs rfl rfl ha.vw (by split<;>omega)
 rw [if_neg e11]
 by_cases e12:s.o=12
 ·rw [if_pos e12];exact hst 1 (by omega) (by omega)
 rw [if_neg e12]
 by_cases e13:s.o=13
 ·rw [if_pos e13];exact hst 2 (by omega) (by omega)
 rw [if_neg e13]
 by_cases hc:0≤cellM k s∧cellM k s≤23
 ·rw [if_pos hc]
  generalize hcc:(cellM k s).toNat=c
  have hc24:c < 24:=by omega
  split
  ·exact h
  ·rename_i hfull
   unfold memS
   by_cases e5:s.o=5
   ·rw [if_pos e5]
    exact keep_go h ha d.mem d.tr (k.pc+1) hm id ht (by show (k.regs.set _ _).length=8;rw [List.length_set];exact ha.regs) rfl rfl (ldW_ok late false hm ha.vw hc24) (by omega)
   ·rw [if_neg e5]
    have hf:¬ (d.mem.getD c []).length=4000:=fun q=>hfull ⟨e5,q⟩
    by_cases e8:s.o=8
    ·rw [if_pos e8]
     obtain ⟨a1,a2,a3⟩:=stM_ok (regA k s.b) true hm (ldW_ok 0 true hm ha.vw hc24) hc24 hf
     exact keep_go h ha _ d.tr (k.pc+1) a1 a3 ht (by show (k.regs.set _ _).length=8;rw [List.length_set];exact ha.regs) rfl rfl a2 (by omega)
    ·rw [if_neg e8]
     obtain ⟨a1,a2,a3⟩:=stM_ok (regA k s.b) (decide (s.o=7)) hm ha.vw hc24 hf
     exact keep_go h ha _ d.tr (k.pc+1) a1 a3 ht ha.regs rfl rfl a2 (by omega)
 ·rw [if_neg hc];exact hst 2 (by omega) (by omega)
theorem stepM_ok {d:MD} (who late:Int) (h:machB d=true):machB (stepM d who late).1=true:=by
 by_cases hw:0≤who∧who < (d.cores.length:Int)
 ·obtain ⟨n,rfl⟩:∃ n:Nat,who=(n:Int):=⟨who.toNat,by omega⟩
  obtain ⟨k,code,s,ha⟩:=mach_at h (who:=n) (by omega)
  by_cases hr:k.st=0
  ·rw [stepM_at ha late hr];exact stepAt_ok late h ha
  ·rw [stepM_over ha late hr];exact h
 ·rw [stepM_none late hw];exact h
end
section
set_option linter.unusedSimpArgs false
set_option linter.unusedVariables false
set_option maxRecDepth 100000
open Go.RowKit
end
section
set_option linter.unusedSimpArgs false
set_option linter.unusedVariables false
set_option maxRecDepth 100000
open Go.RowKit
inductive FS where
 | i
 | r (x:VS) (e:Nat)
inductive FV where
 | i (z:Int)
 | r (l:List Int)
def FS.kind:FS→Option Nat
 | .i=>none
 | .r _ e=>some e
def fAs (a:Addr):FS→List Addr
 | .i=>[a]
 | .r x e=>vAs (x.wide e)
def recAs (s:Option Addr):List FS→Nat→List Addr
 | [],_=>[]
 | f::r,j=>fAs (adr s j) f++recAs s r (j+1)
def gAs (s:Option Addr) (wd:Nat):List (List FS)→Nat→List Addr
 | [],_=>[]
 | f::r,k=>recAs s f (k * wd)++gAs s wd r (k+1)
def FO (w:World) (lo hi:Nat) (a:Addr):FS→FV→Prop
 | .i,.i z=>w.cell? a=some (.int .i64 z)∧w.frozen? a=false∧lo≤a.block∧a.block < hi
 | .r x e,.r l=>w.cell? a=some (.slice x.s x.n x.c)∧(lo≤a.block∧a.block < hi)∧VO w lo hi (x.wide e) l
 | _,_=>False
def FSh (w:World) (lo hi:Nat) (a:Addr):FS→Prop
 | .i=>IntC w lo hi a
 | .r x e=>w.cell? a=some (.slice x.s x.n x.c)∧(lo≤a.block∧a.block < hi)∧(x.n * e=0∨Somewhere x.s)∧∀ b∈vAs (x.wide e),IntC w lo hi b
structure GO (w:World) (lo hi:Nat) (s:Option Addr) (T:List (Option Nat)) (R:List (List FS)) (L:List (List FV)):Prop where
 n:R.length=L.length
 rok:L=[]∨Somewhere s
 t:∀ (k:Nat) (rec:List FS),R[k]? =some rec→rec.map FS.kind=T
 c:∀ (k:Nat) (rec:List FS) (vals:List FV),R[k]? =some rec→L[k]? =some vals→rec.length=vals.length∧∀ (j:Nat) (f:FS) (v:FV),rec[j]? =some f→vals[j]? =some v→FO w lo hi (adr s (k * T.length+j)) f v
 o:∀ rec∈R,∀ x e,FS.r x e∈rec→∀ a∈vAs (x.wide e),∀ g o,s=some ⟨g,o,none⟩→a.block≠g
 d:(gAs s T.length R 0).Nodup
structure GSh (w:World) (lo hi:Nat) (s:Option Addr) (T:List (Option Nat)) (R:List (List FS)):Prop where
 rok:R=[]∨Somewhere s
 t:∀ (k:Nat) (rec:List FS),R[k]? =some rec→rec.map FS.kind=T
 c:∀ (k:Nat) (rec:List FS) (j:Nat) (f:FS),R[k]? =some rec→rec[j]? =some f→FSh w lo hi (adr s (k * T.length+j)) f
 d:(gAs s T.length R 0).Nodup
theorem mem_recAs {s:Option Addr} {a:Addr}:∀ {rec:List FS} {j:Nat},a∈recAs s rec j↔∃ (i:Nat) (f:FS),rec[i]? =some f∧a∈fAs (adr s (j+i)) f
 | [],j=>by simp [recAs]
 | f::r,j=>by
  simp only [recAs,List.mem_append,mem_recAs (rec:=r) (j:=j+1)]
  constructor
  ·rintro (h | ⟨i,f',h,e⟩)
   ·exact ⟨0,f,rfl,h⟩
   ·exact ⟨i+1,f',by simpa using h,by rw [show j+(i+1)=j+1+i by omega];exact e⟩
  ·rintro ⟨i,f',h,e⟩
   rcases Nat.eq_zero_or_pos i with rfl | hp
   ·simp at h
    subst h
    exact .inl e
   ·obtain ⟨m,rfl⟩:∃ m,i=m+1:=⟨i - 1,by omega⟩
    exact .inr ⟨m,f',by simpa using h,by rw [show j+1+m=j+(m+1) by omega];exact e⟩
theorem mem_gAs {s:Option Addr} {wd:Nat} {a:Addr}:∀ {R:List (List FS)} {k:Nat},a∈gAs s wd R k↔∃ (i:Nat) (rec:List FS) (j:Nat) (f:FS),R[i]? =some rec∧rec[j]? =some f∧a∈fAs (adr s ((k+i) * wd+j)) f
 | [],k=>by simp [gAs]
 | r0::r,k=>by
  simp only [gAs,List.mem_append,mem_gAs (R:=r) (k:=k+1),mem_recAs]
  constructor
  ·rintro (⟨j,f,h,e⟩ | ⟨i,rec,j,f,h,h',e⟩)
   ·exact ⟨0,r0,j,f,rfl,h,by simpa using e⟩
   ·exact ⟨i+1,rec,j,f,by simpa using h,h',by rw [show k+(i+1)=k+1+i by omega];exact e⟩
  ·rintro ⟨i,rec,j,f,h,h',e⟩
   rcases Nat.eq_zero_or_pos i with rfl | hp
   ·simp at h
    subst h
    exact .inl ⟨j,f,h',by simpa using e⟩
   ·obtain ⟨m,rfl⟩:∃ m,i=m+1:=⟨i - 1,by omega⟩
    exact .inr ⟨m,rec,j,f,by simpa using h,h',by rw [show k+1+m=k+(m+1) by omega];exact e⟩
theorem gAs_append (s:Option Addr) (wd:Nat) (b:List (List FS)):∀ (a:List (List FS)) (k:Nat),gAs s wd (a++b) k=gAs s wd a k++gAs s wd b (k+a.length)
 | [],k=>by simp [gAs]
 | y::r,k=>by
  have e:k+1+r.length=k+(r.length+1):=by omega
  simp [gAs,gAs_append s wd b r (k+1),e]
theorem FO.keep {w w':World} {lo hi:Nat} {a:Addr} {f:FS} {v:FV} (h:FO w lo hi a f v) (hb:Keep lo hi w w'):FO w' lo hi a f v:=by
 cases f<;>cases v<;>first | exact h | skip
 ·obtain ⟨h1,h2,h3,h4⟩:=h
  exact ⟨(hb.cell h3 h4).trans h1,(hb.frozen h3 h4).trans h2,h3,h4⟩
 ·obtain ⟨h1,⟨h3,h4⟩,h2⟩:=h
  exact ⟨(hb.cell h3 h4).trans h1,⟨h3,h4⟩,h2.keep hb⟩
theorem FO.mono {w:World} {lo hi lo' hi':Nat} {a:Addr} {f:FS} {v:FV} (h:FO w lo hi a f v) (p:lo'≤lo) (q:hi≤hi'):FO w lo' hi' a f v:=by
 cases f<;>cases v<;>first | exact h | skip
 ·obtain ⟨h1,h2,h3,h4⟩:=h
  exact ⟨h1,h2,by omega,by omega⟩
 ·obtain ⟨h1,⟨h3,h4⟩,h2⟩:=h
  exact ⟨h1,⟨by omega,by omega⟩,h2.mono p q⟩
theorem GO.keep {w w':World} {lo hi:Nat} {s:Option Addr} {T:List (Option Nat)} {R:List (List FS)} {L:List (List FV)} (h:GO w lo hi s T R L) (hb:Keep lo hi w w'):GO w' lo hi s T R L:=
 ⟨h.n,h.rok,h.t,fun k rec vals hr hl=>⟨(h.c k rec vals hr hl).1,fun j f v hf hv=>((h.c k rec vals hr hl).2 j f v hf hv).keep hb⟩,h.o,h.d⟩
theorem GO.mono {w:World} {lo hi lo' hi':Nat} {s:Option Addr} {T:List (Option Nat)} {R:List (List FS)} {L:List (List FV)} (h:GO w lo hi s T R L) (p:lo'≤lo) (q:hi≤hi'):GO w lo' hi' s T R L:=
 ⟨h.n,h.rok,h.t,fun k rec vals hr hl=>⟨(h.c k rec vals hr hl).1,fun j f v hf hv=>((h.c k rec vals hr hl).2 j f v hf hv).mono p q⟩,h.o,h.d⟩
theorem GO.nil (w:World) (lo hi:Nat) (s:Option Addr) (T:List (Option Nat)):GO w lo hi s T [] []:=
 ⟨rfl,.inl rfl,fun k rec h=>by simp at h,fun k rec vals h=>by simp at h,fun rec h=>by simp at h,by simp [gAs]⟩
theorem VO.intc {w:World} {lo hi:Nat} {x:VS} {l:List Int} (h:VO w lo hi x l) {a:Addr} (ha:a∈vAs x):IntC w lo hi a:=by
 have hb:=h.blk ha
 obtain ⟨i,hi',rfl⟩:=mem_vAs.1 ha
 rcases h.c with e | ⟨g,o,hs,h1,h2,hc⟩
 ·have:=h.n;rw [e] at this;simp at this;omega
 ·obtain ⟨c1,c2⟩:=hc i (by rw [← h.n];exact hi')
  rw [hs] at hb ⊢
  exact ⟨⟨_,c1⟩,c2,hb.1,hb.2⟩
theorem FO.sh {w:World} {lo hi:Nat} {a:Addr} {f:FS} {v:FV} (h:FO w lo hi a f v):FSh w lo hi a f:=by
 cases f<;>cases v<;>first | exact False.elim h | skip
 ·obtain ⟨h1,h2,h3,h4⟩:=h
  exact ⟨⟨_,h1⟩,h2,h3,h4⟩
 ·obtain ⟨h1,h34,h2⟩:=h
  refine ⟨h1,h34,?_,fun b hb=>h2.intc hb⟩
  rcases h2.c with e | ⟨g,o,hs,-⟩
  ·have:=h2.n;rw [e] at this;exact .inl this
  ·exact .inr ⟨g,o,hs⟩
theorem FSh.int {w:World} {lo hi:Nat} {a b:Addr} {f:FS} (h:FSh w lo hi a f) (hb:b∈fAs a f):IntC w lo hi b:=by
 cases f with
 | i=>simp [fAs] at hb;subst hb;exact h
 | r x e=>exact h.2.2.2 b hb
theorem GSh.int {w:World} {lo hi:Nat} {s:Option Addr} {T:List (Option Nat)} {R:List (List FS)} (h:GSh w lo hi s T R):∀ a∈gAs s T.length R 0,IntC w lo hi a:=fun a ha=>by
 obtain ⟨i,rec,j,f,h1,h2,h3⟩:=mem_gAs.1 ha
 rw [Nat.zero_add] at h3
 exact (h.c i rec j f h1 h2).int h3
theorem GO.sh {w:World} {lo hi:Nat} {s:Option Addr} {T:List (Option Nat)} {R:List (List FS)} {L:List (List FV)} (h:GO w lo hi s T R L):GSh w lo hi s T R:=by
 refine ⟨?_,h.t,fun k rec j f hr hf=>?_,h.d⟩
 ·rcases h.rok with e | e
  ·have:=h.n;rw [e] at this;exact .inl (List.length_eq_zero_iff.1 (by simpa using this))
  ·exact .inr e
 ·obtain ⟨vals,hv⟩:=at_same h.n.symm hr
  obtain ⟨h1,h2⟩:=h.c k rec vals hr hv
  obtain ⟨v,hv'⟩:=at_same h1.symm hf
  exact (h2 j f v hf hv').sh
theorem GO.blk {w:World} {lo hi:Nat} {s:Option Addr} {T:List (Option Nat)} {R:List (List FS)} {L:List (List FV)} (h:GO w lo hi s T R L) {a:Addr} (ha:a∈gAs s T.length R 0):lo≤a.block∧a.block < hi:=by
 obtain ⟨-,-,h3,h4⟩:=h.sh.int a ha
 exact ⟨h3,h4⟩
/- a record put behind a row -/
theorem GO.push {w w2 : World} {lo hi : Nat} {s : Option Addr} {T : List (Option Nat)} {R : List (List FS)} {L : List (List FV)} (rec : List FS) (vals : List FV) (h : GO w lo hi s T R L)
  (hs:Somewhere s) (hk:rec.map FS.kind=T) (hl:rec.length=vals.length)
  (hold:∀ (k:Nat) (r:List FS) (v:List FV) (j:Nat) (f:FS) (y:FV),R[k]? =some r→L[k]? =some v→r[j]? =some f→v[j]? =some y→FO w lo hi (adr s (k * T.length+j)) f y→FO w2 lo hi (adr s (k * T.length+j)) f y)
  (hnew:∀ (j:Nat) (f:FS) (v:FV),rec[j]? =some f→vals[j]? =some v→FO w2 lo hi (adr s (L.length * T.length+j)) f v)
  (ho:∀ x e,FS.r x e∈rec→∀ a∈vAs (x.wide e),∀ g o,s=some ⟨g,o,none⟩→a.block≠g)
  (hn:(recAs s rec (L.length * T.length)).Nodup) (hd:∀ a∈gAs s T.length R 0,a∉recAs s rec (L.length * T.length)):GO w2 lo hi s T (R++[rec]) (L++[vals]):=by
 have hlen:=h.n
 have ga:gAs s T.length (R++[rec]) 0=gAs s T.length R 0++recAs s rec (L.length * T.length):=by rw [gAs_append,hlen,Nat.zero_add];simp [gAs]
 refine ⟨by simp [hlen],.inr hs,fun k r hr=>?_,fun k r v hr hv=>?_,fun r hr=>?_,?_⟩
 ·rcases getElem?_push hr with hr | ⟨-,rfl⟩
  ·exact h.t k r hr
  ·exact hk
 ·rcases getElem?_push hr with hr | ⟨e1,rfl⟩
  ·rcases getElem?_push hv with hv | ⟨e2,rfl⟩
   ·refine ⟨(h.c k r v hr hv).1,fun j f y hf hy=>?_⟩
    exact hold k r v j f y hr hv hf hy ((h.c k r v hr hv).2 j f y hf hy)
   ·have:=(List.getElem?_eq_some_iff.1 hr).1
    omega
  ·rcases getElem?_push hv with hv | ⟨e2,rfl⟩
   ·have:=(List.getElem?_eq_some_iff.1 hv).1
    omega
   ·refine ⟨hl,fun j f y hf hy=>?_⟩
    rw [e2]
    exact hnew j f y hf hy
 ·rcases List.mem_append.1 hr with hr | hr
  ·exact h.o r hr
  ·simp at hr
   subst hr
   exact ho
 ·rw [ga]
  refine List.nodup_append.2 ⟨h.d,hn,fun a ha b hb e=>?_⟩
  subst e
  exact hd a ha hb
end
section
set_option linter.unusedSimpArgs false
set_option linter.unusedVariables false
set_option maxRecDepth 100000
open Go.RowKit
end
section
set_option linter.unusedSimpArgs false
set_option linter.unusedVariables false
set_option maxRecDepth 100000
open Go.RowKit
structure B4 (w:World) (b:Nat) (v0 v1 v2 v3:Value):Prop where
 z:b < w.heap.size
 c0:w.cell? ⟨b,0,none⟩=some v0
 c1:w.cell? ⟨b,1,none⟩=some v1
 c2:w.cell? ⟨b,2,none⟩=some v2
 c3:w.cell? ⟨b,3,none⟩=some v3
theorem B4.keep {w w':World} {b:Nat} {v0 v1 v2 v3:Value} (h:B4 w b v0 v1 v2 v3) {B:Nat} (hb:Below B w w') (hB:b < B):B4 w' b v0 v1 v2 v3:=
 ⟨Nat.lt_of_lt_of_le h.z hb.size,(hb.cell (p:=⟨b,0,none⟩) hB).trans h.c0,(hb.cell (p:=⟨b,1,none⟩) hB).trans h.c1,(hb.cell (p:=⟨b,2,none⟩) hB).trans h.c2,(hb.cell (p:=⟨b,3,none⟩) hB).trans h.c3⟩
theorem B4.new (w:World) (v0 v1 v2 v3:Value) (T:TypeId):∃ W,w.alloc (.cells #[v0,v1,v2,v3] T)=W∧B4 W w.heap.size v0 v1 v2 v3∧Below w.heap.size w W∧w.heap.size < W.heap.size:=by
 refine ⟨_,rfl,⟨?_,?_,?_,?_,?_⟩,(Below.refl _ _).alloc (Nat.le_refl _) _,?_⟩<;>simp [go_sem]
end
section
set_option linter.unusedSimpArgs false
set_option linter.unusedVariables false
set_option maxRecDepth 100000
open Go.RowKit
def codeV (l:List I5):List FV:=[.r (fl5 l)]
def coreV (k:KD):List FV:=[.i k.pc,.r k.regs,.r k.vw,.i k.st]
def TC:List (Option Nat):=[some 5]
def TK:List (Option Nat):=[none,some 1,some 1,none]
def fl2:List ND→List Int
 | []=>[]
 | x::r=>[x.who,x.v]++fl2 r
theorem fl2_len:∀ l:List ND,(fl2 l).length=l.length * 2
 | []=>rfl
 | x::r=>by simp [fl2,fl2_len r];omega
theorem flatN_fl2:∀ l:List ND,flatN l=(fl2 l).map (Value.int .i64)
 | []=>rfl
 | x::r=>by simp [flatN,fl2,flatN_fl2 r]
theorem wide_one (x:VS):x.wide 1=x:=by cases x;simp [VS.wide]
/- a row that is owned whole -/
theorem own_vo {w:World} {base n size:Nat} {e:TypeId} {v:Value} {l:List Int} (h:w.ownsRow base e size v n (l.map (Value.int .i64))) (hl:l.length=n * size):∃ s c,v=.slice s n c∧VO w base w.heap.size ((⟨s,n,c⟩:VS).wide size) l:=by
 rcases Nat.eq_zero_or_pos n with h0 | hpos
 ·subst h0
  obtain ⟨s,c,e⟩:=ownSl h
  exact ⟨s,c,e,⟨by simp [VS.wide,hl],.inl (List.length_eq_zero_iff.1 (by simpa using hl))⟩⟩
 ·obtain ⟨g,cap,rfl,-⟩:=World.ownsRow.form h hpos
  have hlt:=World.ownsRow.lt h g rfl
  refine ⟨_,_,rfl,⟨by simp [VS.wide,hl],.inr ⟨g,0,rfl,hlt.1,hlt.2,fun i hi=>?_⟩⟩⟩
  rw [Nat.zero_add]
  refine ⟨?_,World.ownsRow.frozenAt h i⟩
  rw [World.ownsRow.cellAt h i (by omega),List.getElem?_map,List.getD_eq_getElem?_getD,List.getElem?_eq_getElem hi]
  rfl
theorem OwnD.vo {w:World} {base n c:Nat} {s:Option Addr} {l:List ND} (h:OwnD w base (.slice s n c) l) (hn:n=l.length):VO w base w.heap.size ((⟨s,n,c⟩:VS).wide 2) (fl2 l):=by
 subst hn
 unfold OwnD at h
 rw [flatN_fl2] at h
 obtain ⟨s',c',e,hv⟩:=own_vo h (fl2_len l)
 injection e with e1 e2 e3
 subst e1 e3
 exact hv
/- reading what is owned -/
theorem VO.insR {w:World} {lo hi:Nat} {s:Option Addr} {c:Nat} {l:List I5} (h:VO w lo hi ((⟨s,l.length,c⟩:VS).wide 5) (fl5 l)):InsR w lo hi s l:=by
 rcases h.c with e | ⟨g,o,hs,h1,h2,hc⟩
 ·have:=fl5_len l
  rw [e] at this
  exact .inl (List.length_eq_zero_iff.1 (by simp at this;omega))
 ·refine .inr ⟨g,o,hs,h1,h2,fun i hi=>?_⟩
  have hx:l[i]? =some (l.getD i z5):=by rw [List.getD_eq_getElem?_getD,List.getElem?_eq_getElem hi];rfl
  obtain ⟨e0,e1,e2,e3,e4⟩:=fl5_at l i _ hx
  have q:∀ j,j < 5→w.cell? ⟨g,o+i * 5+j,none⟩=some (.int .i64 ((fl5 l).getD (i * 5+j) 0)):=fun j hj=>by
   have:=(hc (i * 5+j) (by rw [fl5_len];omega)).1
   rw [← Nat.add_assoc] at this
   exact this
  have q0:=q 0 (by omega)
  have q1:=q 1 (by omega)
  have q2:=q 2 (by omega)
  have q3:=q 3 (by omega)
  have q4:=q 4 (by omega)
  rw [List.getD_eq_getElem?_getD] at q0 q1 q2 q3 q4
  rw [Nat.add_zero,Nat.add_zero,e0] at q0
  rw [e1] at q1
  rw [e2] at q2
  rw [e3] at q3
  rw [e4] at q4
  exact ⟨q0,q1,q2,q3,q4⟩
theorem kindC {rec:List FS} (h:rec.map FS.kind=TC):∃ x,rec=[.r x 5]:=by
 match rec,h with
 | [.r x e],h=>
  simp [TC,FS.kind] at h
  exact ⟨x,by rw [h]⟩
 | [.i],h=>simp [TC,FS.kind] at h
 | [],h=>simp [TC] at h
 | _::_::_,h=>simp [TC] at h
theorem kindK {rec:List FS} (h:rec.map FS.kind=TK):∃ x y,rec=[.i,.r x 1,.r y 1,.i]:=by
 match rec,h with
 | [.i,.r x e,.r y e',.i],h=>
  simp [TK,FS.kind] at h
  exact ⟨x,y,by rw [h.1,h.2]⟩
 | [],h=>simp [TK] at h
 | [_],h=>simp [TK] at h
 | [_,_],h=>simp [TK] at h
 | [_,_,_],h=>simp [TK] at h
 | .r _ _::_::_::_::_,h=>simp [TK,FS.kind] at h
 | .i::.i::_::_::_,h=>simp [TK,FS.kind] at h
 | .i::.r _ _::.i::_::_,h=>simp [TK,FS.kind] at h
 | .i::.r _ _::.r _ _::.r _ _::_,h=>simp [TK,FS.kind] at h
 | .i::.r _ _::.r _ _::.i::_::_,h=>simp [TK,FS.kind] at h
theorem GO.csR {w:World} {lo hi:Nat} {s:Option Addr} {R:List (List FS)} {l:List (List I5)} (h:GO w lo hi s TC R (l.map codeV)):CsR w lo hi s l:=by
 rcases h.rok with e | ⟨g,o,rfl⟩
 ·exact .inl (by simpa using e)
 ·rcases Nat.eq_zero_or_pos l.length with h0 | hpos
  ·exact .inl (List.length_eq_zero_iff.1 h0)
  have at1:∀ i x,l[i]? =some x→CR w lo hi g (o+i) x∧lo≤g∧g < hi:=fun i x hx=>by
   have hv:(l.map codeV)[i]? =some (codeV x):=by rw [List.getElem?_map,hx];rfl
   obtain ⟨rec,hr⟩:=at_same h.n hv
   obtain ⟨y,rfl⟩:=kindC (h.t i rec hr)
   have q:=(h.c i _ _ hr hv).2 0 (.r y 5) (.r (fl5 x)) rfl rfl
   obtain ⟨q1,q2,q3⟩:=q
   have hn:y.n=x.length:=by
    have:=q3.n
    rw [fl5_len] at this
    simp [VS.wide] at this
    omega
   obtain ⟨ys,yn,yc⟩:=y
   simp only at hn
   subst hn
   refine ⟨⟨ys,yc,?_,q3.insR⟩,q2⟩
   simpa [adr,TC] using q1
  have h0:=at1 0 _ (List.getElem?_eq_getElem hpos)
  exact .inr ⟨g,o,rfl,h0.2.1,h0.2.2,fun i x hx=>(at1 i x hx).1⟩
theorem GO.ksR {w:World} {lo hi:Nat} {s:Option Addr} {R:List (List FS)} {l:List KD} (h:GO w lo hi s TK R (l.map coreV)):KsR w lo hi s l:=by
 rcases h.rok with e | ⟨g,o,rfl⟩
 ·exact .inl (by simpa using e)
 ·rcases Nat.eq_zero_or_pos l.length with h0 | hpos
  ·exact .inl (List.length_eq_zero_iff.1 h0)
  have at1:∀ i x,l[i]? =some x→KR w lo hi g (o+i * 4) x∧lo≤g∧g < hi:=fun i x hx=>by
   have hv:(l.map coreV)[i]? =some (coreV x):=by rw [List.getElem?_map,hx];rfl
   obtain ⟨rec,hr⟩:=at_same h.n hv
   obtain ⟨y,y',rfl⟩:=kindK (h.t i rec hr)
   have q:=(h.c i _ _ hr hv).2
   have q0:=q 0 .i (.i x.pc) rfl rfl
   have q1:=q 1 (.r y 1) (.r x.regs) rfl rfl
   have q2:=q 2 (.r y' 1) (.r x.vw) rfl rfl
   have q3:=q 3 .i (.i x.st) rfl rfl
   obtain ⟨a1,a2,a3⟩:=q1
   obtain ⟨b1,b2,b3⟩:=q2
   rw [wide_one] at a3 b3
   have n1:=a3.n
   have n2:=b3.n
   obtain ⟨ys,yn,yc⟩:=y
   obtain ⟨zs,zn,zc⟩:=y'
   simp only at n1 n2
   subst n1 n2
   have e:∀ j,o+(i * 4+j)=o+i * 4+j:=fun j=>by omega
   simp only [adr,TK,List.length,e] at q0 a1 b1 q3 a2
   exact ⟨⟨ys,yc,zs,zc,q0.1,a1,b1,q3.1,a3.ints,b3.ints⟩,a2⟩
  have h0:=at1 0 _ (List.getElem?_eq_getElem hpos)
  exact .inr ⟨g,o,rfl,h0.2.1,h0.2.2,fun i x hx=>(at1 i x hx).1⟩
theorem fl2_at:∀ (l:List ND) (i:Nat) (x:ND),l[i]? =some x→(fl2 l)[i * 2]? =some x.who∧(fl2 l)[i * 2+1]? =some x.v
 | [],i,x,h=>by simp at h
 | y::r,0,x,h=>by
  simp at h
  subst h
  exact ⟨rfl,rfl⟩
 | y::r,i+1,x,h=>by
  have h':r[i]? =some x:=by simpa using h
  have e:=fl2_at r i x h'
  have e0:(i+1) * 2=i * 2+2:=by omega
  rw [e0]
  exact e
theorem VO.ntsR {w:World} {lo hi:Nat} {s:Option Addr} {n c:Nat} {l:List ND} (h:VO w lo hi ((⟨s,n,c⟩:VS).wide 2) (fl2 l)):NtsR w lo hi s l:=by
 rcases h.c with e | ⟨g,o,hs,h1,h2,hc⟩
 ·have:=fl2_len l
  rw [e] at this
  exact .inl (List.length_eq_zero_iff.1 (by simp at this;omega))
 ·refine .inr ⟨g,o,hs,h1,h2,fun i x hx=>?_⟩
  have hi:=(List.getElem?_eq_some_iff.1 hx).1
  obtain ⟨e0,e1⟩:=fl2_at l i _ hx
  have q0:=(hc (i * 2) (by rw [fl2_len];omega)).1
  have q1:=(hc (i * 2+1) (by rw [fl2_len];omega)).1
  rw [List.getD_eq_getElem?_getD] at q0 q1
  rw [e0] at q0
  rw [e1] at q1
  exact ⟨q0,q1⟩
/- a box of four cells that may be written -/
structure X4 (w:World) (b:Nat) (v0 v1 v2 v3:Value):Prop where
 x:B4 w b v0 v1 v2 v3
 fz:∀ j,w.frozen? ⟨b,j,none⟩=false
theorem X4.keep {w w':World} {b:Nat} {v0 v1 v2 v3:Value} (h:X4 w b v0 v1 v2 v3) {B:Nat} (hb:Below B w w') (hB:b < B):X4 w' b v0 v1 v2 v3:=
 ⟨h.x.keep hb hB,fun j=>(hb.frozen (p:=⟨b,j,none⟩) hB).trans (h.fz j)⟩
theorem X4.set0 {w:World} {b:Nat} {v0 v1 v2 v3 u:Value} (h:X4 w b v0 v1 v2 v3):X4 (w.setCell ⟨b,0,none⟩ u) b u v1 v2 v3:=
 ⟨⟨by simpa using h.x.z,setC_at (by rw [h.x.c0];rfl),(setC_off (by omega)).trans h.x.c1,(setC_off (by omega)).trans h.x.c2,(setC_off (by omega)).trans h.x.c3⟩,fun j=>by rw [World.frozen?_setCell];exact h.fz j⟩
theorem X4.set1 {w:World} {b:Nat} {v0 v1 v2 v3 u:Value} (h:X4 w b v0 v1 v2 v3):X4 (w.setCell ⟨b,1,none⟩ u) b v0 u v2 v3:=
 ⟨⟨by simpa using h.x.z,(setC_off (by omega)).trans h.x.c0,setC_at (by rw [h.x.c1];rfl),(setC_off (by omega)).trans h.x.c2,(setC_off (by omega)).trans h.x.c3⟩,fun j=>by rw [World.frozen?_setCell];exact h.fz j⟩
theorem X4.set2 {w:World} {b:Nat} {v0 v1 v2 v3 u:Value} (h:X4 w b v0 v1 v2 v3):X4 (w.setCell ⟨b,2,none⟩ u) b v0 v1 u v3:=
 ⟨⟨by simpa using h.x.z,(setC_off (by omega)).trans h.x.c0,(setC_off (by omega)).trans h.x.c1,setC_at (by rw [h.x.c2];rfl),(setC_off (by omega)).trans h.x.c3⟩,fun j=>by rw [World.frozen?_setCell];exact h.fz j⟩
theorem X4.set3 {w:World} {b:Nat} {v0 v1 v2 v3 u:Value} (h:X4 w b v0 v1 v2 v3):X4 (w.setCell ⟨b,3,none⟩ u) b v0 v1 v2 u:=
 ⟨⟨by simpa using h.x.z,(setC_off (by omega)).trans h.x.c0,(setC_off (by omega)).trans h.x.c1,(setC_off (by omega)).trans h.x.c2,setC_at (by rw [h.x.c3];rfl)⟩,fun j=>by rw [World.frozen?_setCell];exact h.fz j⟩
theorem X4.new (w:World) (v0 v1 v2 v3:Value) (T:TypeId):∃ W,w.alloc (.cells #[v0,v1,v2,v3] T)=W∧X4 W w.heap.size v0 v1 v2 v3∧Below w.heap.size w W∧w.heap.size < W.heap.size:=by
 refine ⟨_,rfl,⟨⟨?_,?_,?_,?_,?_⟩,?_⟩,(Below.refl _ _).alloc (Nat.le_refl _) _,?_⟩<;>first | (simp [go_sem];done) | (intro j;simp [go_sem])
structure MP where
 s1:Option Addr
 c1:Nat
 RC:List (List FS)
 s2:Option Addr
 c2:Nat
 RK:List (List FS)
 s3:Option Addr
 c3:Nat
 S:List RS
 s4:Option Addr
 c4:Nat
def MP.x4 (p:MP) (d:MD):VS:=(⟨p.s4,d.tr.length,p.c4⟩:VS).wide 2
def MP.as (p:MP) (d:MD):List Addr:=gAs p.s1 TC.length p.RC 0++(gAs p.s2 TK.length p.RK 0++(mAs p.S++vAs (p.x4 d)))
structure MaO (w:World) (lo hi:Nat) (p:MP) (d:MD):Prop where
 c:GO w lo hi p.s1 TC p.RC (d.codes.map codeV)
 k:GO w lo hi p.s2 TK p.RK (d.cores.map coreV)
 m:MO w lo hi p.s3 p.S d.mem
 t:VO w lo hi (p.x4 d) (fl2 d.tr)
 d:(p.as d).Nodup
theorem MaO.keep {w w':World} {lo hi:Nat} {p:MP} {d:MD} (h:MaO w lo hi p d) (hb:Keep lo hi w w'):MaO w' lo hi p d:=⟨h.c.keep hb,h.k.keep hb,h.m.keep hb,h.t.keep hb,h.d⟩
theorem MaO.mono {w:World} {lo hi lo' hi':Nat} {p:MP} {d:MD} (h:MaO w lo hi p d) (a:lo'≤lo) (b:hi≤hi'):MaO w lo' hi' p d:=⟨h.c.mono a b,h.k.mono a b,h.m.mono a b,h.t.mono a b,h.d⟩
theorem MaO.ma {w:World} {lo hi:Nat} {p:MP} {d:MD} (h:MaO w lo hi p d):MaR w lo hi p.s1 p.s2 p.s3 p.s4 d:=⟨h.c.csR,h.k.ksR,h.m.mem,h.t.ntsR⟩
end
end Go.Proofs.YtkhjhibigldcgaaGreat
