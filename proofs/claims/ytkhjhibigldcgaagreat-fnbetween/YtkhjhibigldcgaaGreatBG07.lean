/- What the emitters of places of no channel answer. Conditions: a jump names a start. Emit of the program. Conditions: lists of at most 2^20 + 100. Emit of the program at every argument. Conditions: rows of at most two million numbers. Rows of steps that are written over with running numbers and looked at again; how long the code of a place is. Conditions: at most a thousand steps. Memories as they lie: cells, each a row of writes, each write with its view; read, and owned with the places of their integers. No condition. How the laws copy memories into new memory. Conditions: they are counted. Rows of notes as they lie in memory, and how the laws count, copy and compare them. Conditions: each list of at most 1048576. Append of one integer, of a row of integers, onto a row that a call has made. Conditions: fewer than 2^30 of them. -/
import Derived.Test.YtkhjhibigldcgaaGreatBG00
import Derived.Test.YtkhjhibigldcgaaGreatBG05
import Derived.Test.YtkhjhibigldcgaaGreatBG06
import Derived.Test.YtkhjhibigldcgaaGreatBE10Of
import Derived.Test.YtkhjhibigldcgaaGreatBG03
import Derived.Deep.DeepCutAuto
import Derived.Test.YtkhjhibigldcgaaGreatBG01
import Derived.Test.YtkhjhibigldcgaaGreatBG04
import Derived.Deep.RegionWith
import Derived.Laws.AppendOwnNone
import Derived.Deep.QuietTactic
import Derived.BigQuiet
import Derived.BigRegion
import Derived.Deep.RegionLaw
import Derived.Deep.RegionHeld3
namespace Go.Proofs.YtkhjhibigldcgaaGreat
section
set_option linter.unusedSimpArgs false
set_option linter.unusedVariables false
set_option maxRecDepth 100000
open Go.RowKit
end
section
set_option linter.unusedSimpArgs false
set_option linter.unusedVariables false
set_option maxRecDepth 100000
open Go.RowKit
/- a place in a box -/
structure XB (w:World) (G:Nat) (o r a x n:Int):Prop where
 c0:w.cell? ⟨G,0,none⟩=some (.int .i64 o)
 c1:w.cell? ⟨G,1,none⟩=some (.int .i64 r)
 c2:w.cell? ⟨G,2,none⟩=some (.int .i64 a)
 c3:w.cell? ⟨G,3,none⟩=some (.int .i64 x)
 c4:w.cell? ⟨G,4,none⟩=some (.int .i64 n)
 lt:G < w.heap.size
theorem XB.keep {w w':World} {G:Nat} {o r a x n:Int} (h:XB w G o r a x n) (hb:Below w.heap.size w w'):XB w' G o r a x n:=
 ⟨(hb.cell (p:=⟨G,0,none⟩) h.lt).trans h.c0,(hb.cell (p:=⟨G,1,none⟩) h.lt).trans h.c1,(hb.cell (p:=⟨G,2,none⟩) h.lt).trans h.c2,(hb.cell (p:=⟨G,3,none⟩) h.lt).trans h.c3,(hb.cell (p:=⟨G,4,none⟩) h.lt).trans h.c4,by have:=hb.size;have:=h.lt;omega⟩
theorem XB.new (w:World) (o r a x n:Int) (T:TypeId):∃ W,w.alloc (.cells #[.int .i64 o,.int .i64 r,.int .i64 a,.int .i64 x,.int .i64 n] T)=W∧XB W w.heap.size o r a x n∧Below w.heap.size w W∧w.heap.size < W.heap.size:=
 ⟨_,rfl,⟨by simp [go_sem],by simp [go_sem],by simp [go_sem],by simp [go_sem],by simp [go_sem],by simp⟩,(Below.refl _ _).alloc (Nat.le_refl _) _,by simp⟩
theorem Below.via {B:Nat} {w cur w2:World} (h2:Below cur.heap.size cur w2) (hB:B≤w.heap.size) (h1:Below B w cur):Below B w w2:=h1.trans (h2.mono (Nat.le_trans hB h1.size))
end
section
set_option linter.unusedSimpArgs false
set_option linter.unusedVariables false
set_option maxRecDepth 100000
open Go.RowKit
def chanM (o r a x rm b fr:Int):List I5:=
 if o=5 then togL fr [lockR b,askR b 3,faultR b,openR b rm,roundR,putR b a++(letR b++[⟨10,0,0,0,-1⟩]),letR b++[⟨10,0,0,0,0⟩]] [lockR b,askR b 3,faultR b,openR b rm,roundR,putR b a++(letR b++[⟨10,0,0,0,-1⟩]),letR b++[⟨10,0,0,0,0⟩]]
 else if o=6 then togL fr [lockR b,takenR b r rm,roundT,keepT b x,noneT b r x 0,[⟨10,0,0,0,0⟩]] [lockR b,takenR b r rm,roundT,keepT b x,noneT b r x 0,[⟨10,0,0,0,0⟩]]
 else if o=7 then togL fr [lockR b,askR b 3,faultR b,openR b rm,roundR,putR b a++(letR b++triedR r 1),letR b++triedR r 0] [lockR b,askR b 3,faultR b,openR b rm,roundR,putR b a++(letR b++triedR r 1),letR b++triedR r 0]
 else if o=8 then togL fr [lockR b,takenR b r rm,roundT,keepT b x,noneT b r x 2,cameR r x 0 0] [lockR b,takenR b r rm,roundT,keepT b x,noneT b r x 2,cameR r x 0 0]
 else togL fr [lockR b,askR b 3,faultR b,[⟨1,7,0,0,1⟩,⟨6,0,-1,7,b+3⟩]++letR b] [lockR b,askR b 3,faultR b,[⟨1,7,0,0,1⟩,⟨6,0,-1,7,b+3⟩]++letR b]
def emitM (caps starts:List Int) (o r a x n fr:Int):List I5:=
 if Plain.insB o r a x n starts.length caps.length=true then
  if o=1 then [⟨1,r,0,0,n⟩] else if o=2 then [⟨2,r,a,x,0⟩] else if o=3 then [⟨3,r,a,x,0⟩] else if o=4 then [⟨4,r,a,x,0⟩]
  else if o=10 then [⟨9,0,a,0,0⟩] else if o=11 then [⟨10,0,0,0,starts.getD n.toNat 0⟩] else if o=12 then [⟨11,0,a,0,starts.getD n.toNat 0⟩] else if o=13 then [⟨12,0,0,0,0⟩]
  else if baseV caps n=-1 then [] else chanM o r a x (caps.getD n.toNat 0) (baseV caps n) fr
 else []
theorem baseV_up {caps:List Int} {n:Int} (h:baseV caps n≠ -1):0≤baseV caps n∧baseV caps n≤20∧0≤n∧n < caps.length:=by
 unfold baseV at h ⊢
 by_cases hc:capsR caps=true∧sumC caps≤24∧0≤n∧n < caps.length
 ·rw [if_pos hc]
  obtain ⟨h1,h2,h3,h4⟩:=hc
  have q:=sumC_next h1 (k:=n.toNat) (by omega)
  have q2:=capsR_at h1 (k:=n.toNat) (by omega)
  have q3:=sumC_len _ (capsR_take n.toNat h1)
  refine ⟨by omega,by omega,h3,h4⟩
 ·rw [if_neg hc] at h
  exact absurd rfl h
theorem insB_ops {o r a x n pl ch:Int} (h:Plain.insB o r a x n pl ch=true):o=1∨o=2∨o=3∨o=4∨o=5∨o=6∨o=7∨o=8∨o=9∨o=10∨o=11∨o=12∨o=13:=by
 unfold Plain.insB at h
 have:=of_decide_eq_true h
 omega
theorem insB_jump {o r a x n pl ch:Int} (h:Plain.insB o r a x n pl ch=true) (ho:o=11∨o=12):0≤n∧n < pl:=by
 unfold Plain.insB at h
 have:=of_decide_eq_true h
 omega
end
section
set_option linter.unusedSimpArgs false
set_option linter.unusedVariables false
set_option maxRecDepth 100000
open Go.RowKit
/- the places of a memory's integers, in the order in which they are written over -/
structure VS where
 s:Option Addr
 n:Nat
 c:Nat
def adr:Option Addr→Nat→Addr
 | some a,i=>⟨a.block,a.off+i,none⟩
 | none,_=>⟨0,0,none⟩
def vAs (x:VS):List Addr:=(List.range x.n).map (adr x.s)
theorem mem_vAs {x:VS} {a:Addr}:a∈vAs x↔∃ i,i < x.n∧a=adr x.s i:=by
 simp [vAs]
 constructor
 ·rintro ⟨i,h,rfl⟩;exact ⟨i,h,rfl⟩
 ·rintro ⟨i,h,rfl⟩;exact ⟨i,h,rfl⟩
theorem Keep.frozen {lo hi:Nat} {w w':World} (h:Keep lo hi w w') {p:Addr} (h1:lo≤p.block) (h2:p.block < hi):w'.frozen? p=w.frozen? p:=World.frozen?_of_block (w:=w) (h p.block h1 h2)
theorem getElem?_push {α:Type} {l:List α} {y x:α} {i:Nat} (h:(l++[y])[i]? =some x):l[i]? =some x∨(i=l.length∧x=y):=by
 by_cases hi:i < l.length
 ·rw [List.getElem?_append_left hi] at h;exact .inl h
 ·have:=(List.getElem?_eq_some_iff.1 h).1
  simp at this
  have e:i=l.length:=by omega
  subst e
  simp at h
  exact .inr ⟨rfl,h.symm⟩
def IntC (w:World) (lo hi:Nat) (a:Addr):Prop:=(∃ z,w.cell? a=some (.int .i64 z))∧w.frozen? a=false∧lo≤a.block∧a.block < hi
def Somewhere (s:Option Addr):Prop:=∃ g o,s=some ⟨g,o,none⟩
def VS.wide (x:VS) (e:Nat):VS:=⟨x.s,x.n * e,x.c⟩
/- a row of steps, its block between two -/
structure SB5 (w:World) (lo hi:Nat) (v:Value) (l:List I5):Prop where
 o:OwnT5 w lo v l
 h:∀ k,v.ownBlock=some k→k < hi
theorem SB5.of {w:World} {lo:Nat} {v:Value} {l:List I5} (h:OwnT5 w lo v l):SB5 w lo w.heap.size v l:=⟨h,fun _ hk=>(World.ownsRow.lt h _ hk).2⟩
theorem own5_sl {w:World} {lo:Nat} {v:Value} {l:List I5} (h:OwnT5 w lo v l):∃ s c,v=.slice s l.length c:=by
 rcases h.2 with ⟨h1,h2⟩ | ⟨g,cap,cur,a,-⟩
 ·exact ⟨none,0,by rw [h1,h2]⟩
 ·exact ⟨_,_,a⟩
theorem SB5.insB {w:World} {lo hi:Nat} {s:Option Addr} {c:Nat} {l:List I5} (h:SB5 w lo hi (.slice s l.length c) l):InsB w w.heap.size s l:=by
 rcases Nat.eq_zero_or_pos l.length with h0 | hp
 ·exact .inl (List.length_eq_zero_iff.1 h0)
 ·obtain ⟨g,cap,e,-,hlt⟩:=World.ownsRow.form h.o hp
  injection e with e1 e2 e3
  subst e1
  rcases h.o.insR with e | ⟨g',o',e,-,hl,hc⟩
  ·rw [e] at hp;simp at hp
  ·injection e with e
   injection e with e1 e2
   subst e1 e2
   exact .inr ⟨g,0,rfl,hlt,hc⟩
theorem chanM_len (o r a x rm b fr:Int):(chanM o r a x rm b fr).length≤40:=by
 unfold chanM
 repeat' split
 all_goals
  rw [togL_len]
  simp [lens,lockR,askR,faultR,openR,roundR,putR,letR,triedR,takenR,roundT,keepT,keepR,noneT,noneR,cameR]
theorem emitM_len (caps starts:List Int) (o r a x n fr:Int):(emitM caps starts o r a x n fr).length≤40:=by
 unfold emitM
 repeat' split
 all_goals first | (exact chanM_len _ _ _ _ _ _ _) | simp
end
section
set_option linter.unusedSimpArgs false
set_option linter.unusedVariables false
set_option maxRecDepth 100000
open Go.RowKit
structure WD where
 v:Int
 vw:List Int
def WR (w:World) (lo hi g off:Nat) (x:WD):Prop:=
 ∃ s c,w.cell? ⟨g,off,none⟩=some (.int .i64 x.v)∧w.cell? ⟨g,off+1,none⟩=some (.slice s x.vw.length c)∧IntsR w lo hi s x.vw
def WsR (w:World) (lo hi:Nat) (s:Option Addr) (l:List WD):Prop:=
 l=[]∨∃ g off,s=some ⟨g,off,none⟩∧lo≤g∧g < hi∧∀ (i:Nat) (x:WD),l[i]? =some x→WR w lo hi g (off+i * 2) x
def RwR (w:World) (lo hi g off:Nat) (l:List WD):Prop:=∃ s c,w.cell? ⟨g,off,none⟩=some (.slice s l.length c)∧WsR w lo hi s l
def MemR (w:World) (lo hi:Nat) (s:Option Addr) (m:List (List WD)):Prop:=
 m=[]∨∃ g off,s=some ⟨g,off,none⟩∧lo≤g∧g < hi∧∀ (i:Nat) (l:List WD),m[i]? =some l→RwR w lo hi g (off+i) l
theorem WR.keep {w w':World} {lo hi g off:Nat} {x:WD} (h:WR w lo hi g off x) (hb:Keep lo hi w w') (hc:∀ j,w'.cell? ⟨g,j,none⟩=w.cell? ⟨g,j,none⟩):WR w' lo hi g off x:=by
 obtain ⟨s,c,h1,h2,h3⟩:=h
 exact ⟨s,c,(hc _).trans h1,(hc _).trans h2,h3.keep hb⟩
theorem WsR.keep {w w':World} {lo hi:Nat} {s:Option Addr} {l:List WD} (h:WsR w lo hi s l) (hb:Keep lo hi w w'):WsR w' lo hi s l:=by
 rcases h with h | ⟨g,o,hs,h1,h2,hc⟩
 ·exact .inl h
 ·exact .inr ⟨g,o,hs,h1,h2,fun i r hi=>(hc i r hi).keep hb (fun j=>hb.cell h1 h2)⟩
theorem RwR.keep {w w':World} {lo hi g off:Nat} {l:List WD} (h:RwR w lo hi g off l) (hb:Keep lo hi w w') (hc:∀ j,w'.cell? ⟨g,j,none⟩=w.cell? ⟨g,j,none⟩):RwR w' lo hi g off l:=by
 obtain ⟨s,c,h1,h2⟩:=h
 exact ⟨s,c,(hc _).trans h1,h2.keep hb⟩
theorem MemR.keep {w w':World} {lo hi:Nat} {s:Option Addr} {m:List (List WD)} (h:MemR w lo hi s m) (hb:Keep lo hi w w'):MemR w' lo hi s m:=by
 rcases h with h | ⟨g,o,hs,h1,h2,hc⟩
 ·exact .inl h
 ·exact .inr ⟨g,o,hs,h1,h2,fun i r hi=>(hc i r hi).keep hb (fun j=>hb.cell h1 h2)⟩
theorem WR.mono {w:World} {lo hi lo' hi' g off:Nat} {x:WD} (h:WR w lo hi g off x) (h1:lo'≤lo) (h2:hi≤hi'):WR w lo' hi' g off x:=by
 obtain ⟨s,c,a,b,d⟩:=h
 exact ⟨s,c,a,b,d.mono h1 h2⟩
theorem WsR.mono {w:World} {lo hi lo' hi':Nat} {s:Option Addr} {l:List WD} (h:WsR w lo hi s l) (h1:lo'≤lo) (h2:hi≤hi'):WsR w lo' hi' s l:=by
 rcases h with h | ⟨g,o,hs,a,b,hc⟩
 ·exact .inl h
 ·exact .inr ⟨g,o,hs,by omega,by omega,fun i r hi=>(hc i r hi).mono h1 h2⟩
theorem MemR.mono {w:World} {lo hi lo' hi':Nat} {s:Option Addr} {m:List (List WD)} (h:MemR w lo hi s m) (h1:lo'≤lo) (h2:hi≤hi'):MemR w lo' hi' s m:=by
 rcases h with h | ⟨g,o,hs,a,b,hc⟩
 ·exact .inl h
 ·exact .inr ⟨g,o,hs,by omega,by omega,fun i r hi=>by obtain ⟨s',c',e1,e2⟩:=hc i r hi;exact ⟨s',c',e1,e2.mono h1 h2⟩⟩
theorem MemR.row {w:World} {lo hi:Nat} {s:Option Addr} {m:List (List WD)} (h:MemR w lo hi s m) {i:Nat} {l:List WD} (hi':m[i]? =some l):∃ g off s' c',s=some ⟨g,off,none⟩∧lo≤g∧g < hi∧w.cell? ⟨g,off+i,none⟩=some (.slice s' l.length c')∧WsR w lo hi s' l:=by
 rcases h with rfl | ⟨g,o,hs,a,b,hc⟩
 ·simp at hi'
 ·obtain ⟨s',c',e1,e2⟩:=hc i l hi'
  exact ⟨g,o,s',c',hs,a,b,e1,e2⟩
theorem WsR.at {w:World} {lo hi:Nat} {s:Option Addr} {l:List WD} (h:WsR w lo hi s l) {i:Nat} {x:WD} (hi':l[i]? =some x):∃ g off s' c',s=some ⟨g,off,none⟩∧lo≤g∧g < hi∧w.cell? ⟨g,off+i * 2,none⟩=some (.int .i64 x.v)∧w.cell? ⟨g,off+i * 2+1,none⟩=some (.slice s' x.vw.length c')∧IntsR w lo hi s' x.vw:=by
 rcases h with rfl | ⟨g,o,hs,a,b,hc⟩
 ·simp at hi'
 ·obtain ⟨s',c',e1,e2,e3⟩:=hc i x hi'
  exact ⟨g,o,s',c',hs,a,b,e1,e2,e3⟩
def szV:List WD→Nat
 | []=>0
 | x::r=>x.vw.length+szV r
def szR:List (List WD)→Nat
 | []=>0
 | l::r=>l.length+szV l+szR r
theorem szV_take:∀ (l:List WD) (k:Nat) (x:WD),l[k]? =some x→szV (l.take (k+1))=szV (l.take k)+x.vw.length
 | [],k,x,h=>by simp at h
 | y::r,0,x,h=>by simp at h;subst h;simp [szV]
 | y::r,k+1,x,h=>by
  have:=szV_take r k x (by simpa using h)
  simp [szV,this]
  omega
theorem szR_take:∀ (m:List (List WD)) (k:Nat) (l:List WD),m[k]? =some l→szR (m.take (k+1))=szR (m.take k)+(l.length+szV l)
 | [],k,x,h=>by simp at h
 | y::r,0,x,h=>by simp at h;subst h;simp [szR]
 | y::r,k+1,x,h=>by
  have:=szR_take r k x (by simpa using h)
  simp [szR,this]
  omega
theorem szV_at:∀ (l:List WD) (k:Nat) (x:WD),l[k]? =some x→x.vw.length≤szV l
 | [],k,x,h=>by simp at h
 | y::r,0,x,h=>by simp at h;subst h;simp [szV]
 | y::r,k+1,x,h=>by
  have:=szV_at r k x (by simpa using h)
  simp [szV]
  omega
theorem szR_at:∀ (m:List (List WD)) (k:Nat) (l:List WD),m[k]? =some l→l.length+szV l≤szR m
 | [],k,x,h=>by simp at h
 | y::r,0,x,h=>by simp at h;subst h;simp [szR]
 | y::r,k+1,x,h=>by
  have:=szR_at r k x (by simpa using h)
  simp [szR]
  omega
structure RS where
 s:Option Addr
 c:Nat
 vs:List VS
def rAs (s:Option Addr):List VS→Nat→List Addr
 | [],_=>[]
 | x::r,k=>adr s (k * 2)::(vAs x++rAs s r (k+1))
def mAs:List RS→List Addr
 | []=>[]
 | r::t=>rAs r.s r.vs 0++mAs t
theorem rAs_app (s:Option Addr) (x:VS):∀ (vs:List VS) (k:Nat),rAs s (vs++[x]) k=rAs s vs k++adr s ((k+vs.length) * 2)::vAs x
 | [],k=>by simp [rAs]
 | y::r,k=>by
  have h:=rAs_app s x r (k+1)
  have e:k+1+r.length=k+(r.length+1):=by omega
  simp [rAs,h,e]
theorem mAs_app (x:RS):∀ (S:List RS),mAs (S++[x])=mAs S++rAs x.s x.vs 0
 | []=>by simp [mAs]
 | r::t=>by simp [mAs,mAs_app x t]
theorem mem_rAs {s:Option Addr} {a:Addr}:∀ {vs:List VS} {k:Nat},a∈rAs s vs k↔(∃ i,i < vs.length∧a=adr s ((k+i) * 2))∨∃ x∈vs,a∈vAs x
 | [],k=>by simp [rAs]
 | y::r,k=>by
  simp only [rAs,List.mem_cons,List.mem_append,mem_rAs (vs:=r) (k:=k+1)]
  constructor
  ·rintro (h | h | ⟨i,h,e⟩ | ⟨x,h,e⟩)
   ·exact .inl ⟨0,by simp,by simpa using h⟩
   ·exact .inr ⟨y,.inl rfl,h⟩
   ·exact .inl ⟨i+1,by simpa using h,by rw [e];congr 2;omega⟩
   ·exact .inr ⟨x,.inr h,e⟩
  ·rintro (⟨i,h,e⟩ | ⟨x,h | h,e⟩)
   ·rcases Nat.eq_zero_or_pos i with rfl | hp
    ·exact .inl (by simpa using e)
    ·refine .inr (.inr (.inl ⟨i - 1,by simp at h;omega,?_⟩))
     rw [e];congr 2;omega
   ·subst h;exact .inr (.inl e)
   ·exact .inr (.inr (.inr ⟨x,h,e⟩))
theorem mem_mAs {a:Addr}:∀ {S:List RS},a∈mAs S↔∃ r∈S,a∈rAs r.s r.vs 0
 | []=>by simp [mAs]
 | r::t=>by simp [mAs,mem_mAs (S:=t)]
theorem vAs_nodup {x:VS} {g o:Nat} (h:x.s=some ⟨g,o,none⟩):(vAs x).Nodup:=by
 unfold vAs
 rw [h]
 refine List.Pairwise.map _ (fun a b hab e=>?_) List.nodup_range
 simp [adr] at e
 exact hab e
/- owned: with the places -/
structure VO (w:World) (lo hi:Nat) (x:VS) (l:List Int):Prop where
 n:x.n=l.length
 c:l=[]∨∃ g o,x.s=some ⟨g,o,none⟩∧lo≤g∧g < hi∧∀ i,i < l.length→w.cell? ⟨g,o+i,none⟩=some (.int .i64 (l.getD i 0))∧w.frozen? ⟨g,o+i,none⟩=false
structure RO (w:World) (lo hi:Nat) (r:RS) (l:List WD):Prop where
 n:r.vs.length=l.length
 c:l=[]∨∃ g o,r.s=some ⟨g,o,none⟩∧lo≤g∧g < hi∧∀ (i:Nat) (x:VS) (y:WD),r.vs[i]? =some x→l[i]? =some y→w.cell? ⟨g,o+i * 2,none⟩=some (.int .i64 y.v)∧w.frozen? ⟨g,o+i * 2,none⟩=false∧w.cell? ⟨g,o+i * 2+1,none⟩=some (.slice x.s x.n x.c)
 v:∀ (i:Nat) (x:VS) (y:WD),r.vs[i]? =some x→l[i]? =some y→VO w lo hi x y.vw
 o:∀ x∈r.vs,∀ a∈vAs x,∀ g o,r.s=some ⟨g,o,none⟩→a.block≠g
 d:(rAs r.s r.vs 0).Nodup
structure MO (w:World) (lo hi:Nat) (so:Option Addr) (S:List RS) (m:List (List WD)):Prop where
 n:S.length=m.length
 c:m=[]∨∃ g o,so=some ⟨g,o,none⟩∧lo≤g∧g < hi∧∀ (i:Nat) (r:RS),S[i]? =some r→w.cell? ⟨g,o+i,none⟩=some (.slice r.s r.vs.length r.c)
 r:∀ (i:Nat) (r:RS) (l:List WD),S[i]? =some r→m[i]? =some l→RO w lo hi r l
 d:(mAs S).Nodup
theorem VO.keep {w w':World} {lo hi:Nat} {x:VS} {l:List Int} (h:VO w lo hi x l) (hb:Keep lo hi w w'):VO w' lo hi x l:=by
 refine ⟨h.n,?_⟩
 rcases h.c with h | ⟨g,o,hs,h1,h2,hc⟩
 ·exact .inl h
 ·exact .inr ⟨g,o,hs,h1,h2,fun i hi=>⟨(hb.cell (p:=⟨g,o+i,none⟩) h1 h2).trans (hc i hi).1,(hb.frozen (p:=⟨g,o+i,none⟩) h1 h2).trans (hc i hi).2⟩⟩
theorem RO.keep {w w':World} {lo hi:Nat} {r:RS} {l:List WD} (h:RO w lo hi r l) (hb:Keep lo hi w w'):RO w' lo hi r l:=by
 refine ⟨h.n,?_,fun i x y hx hy=>(h.v i x y hx hy).keep hb,h.o,h.d⟩
 rcases h.c with h | ⟨g,o,hs,h1,h2,hc⟩
 ·exact .inl h
 ·refine .inr ⟨g,o,hs,h1,h2,fun i x y hx hy=>?_⟩
  obtain ⟨a,b,c⟩:=hc i x y hx hy
  exact ⟨(hb.cell (p:=⟨g,o+i * 2,none⟩) h1 h2).trans a,(hb.frozen (p:=⟨g,o+i * 2,none⟩) h1 h2).trans b,(hb.cell (p:=⟨g,o+i * 2+1,none⟩) h1 h2).trans c⟩
theorem MO.keep {w w':World} {lo hi:Nat} {so:Option Addr} {S:List RS} {m:List (List WD)} (h:MO w lo hi so S m) (hb:Keep lo hi w w'):MO w' lo hi so S m:=by
 refine ⟨h.n,?_,fun i r l hr hl=>(h.r i r l hr hl).keep hb,h.d⟩
 rcases h.c with h | ⟨g,o,hs,h1,h2,hc⟩
 ·exact .inl h
 ·exact .inr ⟨g,o,hs,h1,h2,fun i r hr=>(hb.cell (p:=⟨g,o+i,none⟩) h1 h2).trans (hc i r hr)⟩
theorem VO.mono {w:World} {lo hi lo' hi':Nat} {x:VS} {l:List Int} (h:VO w lo hi x l) (a:lo'≤lo) (b:hi≤hi'):VO w lo' hi' x l:=by
 refine ⟨h.n,?_⟩
 rcases h.c with h | ⟨g,o,hs,h1,h2,hc⟩
 ·exact .inl h
 ·exact .inr ⟨g,o,hs,by omega,by omega,hc⟩
theorem RO.mono {w:World} {lo hi lo' hi':Nat} {r:RS} {l:List WD} (h:RO w lo hi r l) (a:lo'≤lo) (b:hi≤hi'):RO w lo' hi' r l:=by
 refine ⟨h.n,?_,fun i x y hx hy=>(h.v i x y hx hy).mono a b,h.o,h.d⟩
 rcases h.c with h | ⟨g,o,hs,h1,h2,hc⟩
 ·exact .inl h
 ·exact .inr ⟨g,o,hs,by omega,by omega,hc⟩
theorem MO.mono {w:World} {lo hi lo' hi':Nat} {so:Option Addr} {S:List RS} {m:List (List WD)} (h:MO w lo hi so S m) (a:lo'≤lo) (b:hi≤hi'):MO w lo' hi' so S m:=by
 refine ⟨h.n,?_,fun i r l hr hl=>(h.r i r l hr hl).mono a b,h.d⟩
 rcases h.c with h | ⟨g,o,hs,h1,h2,hc⟩
 ·exact .inl h
 ·exact .inr ⟨g,o,hs,by omega,by omega,hc⟩
theorem at_same {α β:Type} {a:List α} {b:List β} (h:a.length=b.length) {i:Nat} {y:β} (hy:b[i]? =some y):∃ x,a[i]? =some x:=by
 have:=(List.getElem?_eq_some_iff.1 hy).1
 exact ⟨_,List.getElem?_eq_getElem (by omega)⟩
theorem VO.ints {w:World} {lo hi:Nat} {x:VS} {l:List Int} (h:VO w lo hi x l):IntsR w lo hi x.s l:=by
 rcases h.c with h | ⟨g,o,hs,h1,h2,hc⟩
 ·exact .inl h
 ·exact .inr ⟨g,o,hs,h1,h2,fun i hi=>(hc i hi).1⟩
theorem RO.ws {w:World} {lo hi:Nat} {r:RS} {l:List WD} (h:RO w lo hi r l):WsR w lo hi r.s l:=by
 rcases h.c with e | ⟨g,o,hs,h1,h2,hc⟩
 ·exact .inl e
 ·refine .inr ⟨g,o,hs,h1,h2,fun i y hy=>?_⟩
  obtain ⟨x,hx⟩:=at_same h.n hy
  obtain ⟨a,b,c⟩:=hc i x y hx hy
  have hv:=h.v i x y hx hy
  exact ⟨x.s,x.c,a,by rw [c,hv.n],hv.ints⟩
theorem MO.mem {w:World} {lo hi:Nat} {so:Option Addr} {S:List RS} {m:List (List WD)} (h:MO w lo hi so S m):MemR w lo hi so m:=by
 rcases h.c with e | ⟨g,o,hs,h1,h2,hc⟩
 ·exact .inl e
 ·refine .inr ⟨g,o,hs,h1,h2,fun i l hl=>?_⟩
  obtain ⟨r,hr⟩:=at_same h.n hl
  have hv:=h.r i r l hr hl
  exact ⟨r.s,r.c,by rw [hc i r hr,hv.n],hv.ws⟩
/- where the places lie -/
theorem VO.blk {w:World} {lo hi:Nat} {x:VS} {l:List Int} (h:VO w lo hi x l) {a:Addr} (ha:a∈vAs x):lo≤a.block∧a.block < hi:=by
 obtain ⟨i,hi',rfl⟩:=mem_vAs.1 ha
 rcases h.c with e | ⟨g,o,hs,h1,h2,hc⟩
 ·have:=h.n;rw [e] at this;simp at this;omega
 ·rw [hs];exact ⟨h1,h2⟩
theorem RO.blk {w:World} {lo hi:Nat} {r:RS} {l:List WD} (h:RO w lo hi r l) {a:Addr} (ha:a∈rAs r.s r.vs 0):lo≤a.block∧a.block < hi:=by
 rcases mem_rAs.1 ha with ⟨i,hi',rfl⟩ | ⟨x,hx,hax⟩
 ·rcases h.c with e | ⟨g,o,hs,h1,h2,hc⟩
  ·have:=h.n;rw [e] at this;simp at this;rw [this] at hi';simp at hi'
  ·rw [hs];exact ⟨h1,h2⟩
 ·obtain ⟨i,hi',e⟩:=List.getElem_of_mem hx
  have hl:i < l.length:=by have:=h.n;omega
  exact (h.v i x l[i] (by rw [List.getElem?_eq_getElem hi',e]) (List.getElem?_eq_getElem hl)).blk hax
theorem MO.blk {w:World} {lo hi:Nat} {so:Option Addr} {S:List RS} {m:List (List WD)} (h:MO w lo hi so S m) {a:Addr} (ha:a∈mAs S):lo≤a.block∧a.block < hi:=by
 obtain ⟨r,hr,har⟩:=mem_mAs.1 ha
 obtain ⟨i,hi',e⟩:=List.getElem_of_mem hr
 have hl:i < m.length:=by have:=h.n;omega
 exact (h.r i r m[i] (by rw [List.getElem?_eq_getElem hi',e]) (List.getElem?_eq_getElem hl)).blk har
theorem RO.nil (w:World) (lo hi:Nat) (s:Option Addr) (c:Nat):RO w lo hi ⟨s,c,[]⟩ []:=⟨rfl,.inl rfl,fun i x y hx=>by simp at hx,fun x hx=>by simp at hx,by simp [rAs]⟩
theorem MO.nil (w:World) (lo hi:Nat) (s:Option Addr):MO w lo hi s [] []:=⟨rfl,.inl rfl,fun i x y hx=>by simp at hx,by simp [mAs]⟩
/- a row grows by one write -/
theorem RO.push {w w' : World} {lo hi G O c : Nat} {vs : List VS} {l : List WD} (x : VS) (y : WD) (h : RO w lo hi ⟨some ⟨G, O, none⟩, c, vs⟩ l) (hG : lo ≤ G ∧ G < hi)
  (hs:∀ a:Addr,a≠⟨G,O+l.length * 2,none⟩→a≠⟨G,O+l.length * 2+1,none⟩→w'.cell? a=w.cell? a∧w'.frozen? a=w.frozen? a)
  (h1:w'.cell? ⟨G,O+l.length * 2,none⟩=some (.int .i64 y.v)) (h2:w'.frozen? ⟨G,O+l.length * 2,none⟩=false) (h3:w'.cell? ⟨G,O+l.length * 2+1,none⟩=some (.slice x.s x.n x.c))
  (hx:VO w' lo hi x y.vw) (hxg:∀ a∈vAs x,a.block≠G) (hxd:(vAs x).Nodup) (hd:∀ x'∈vs,∀ a∈vAs x',a∉vAs x):RO w' lo hi ⟨some ⟨G,O,none⟩,c,vs++[x]⟩ (l++[y]):=by
 have hn:vs.length=l.length:=h.n
 have far:∀ x'∈vs,∀ a∈vAs x',w'.cell? a=w.cell? a∧w'.frozen? a=w.frozen? a:=fun x' hx' a ha=>by
  have:=h.o x' hx' a ha G O rfl
  exact hs a (fun e=>this (by rw [e])) (fun e=>this (by rw [e]))
 refine ⟨by simp [hn],.inr ⟨G,O,rfl,hG.1,hG.2,fun i x1 y1 e1 e2=>?_⟩,fun i x1 y1 e1 e2=>?_,fun x' hx' a ha g o e=>?_,?_⟩
 ·rcases getElem?_push e1 with e1 | ⟨i1,rfl⟩
  ·rcases getElem?_push e2 with e2 | ⟨i2,rfl⟩
   ·rcases h.c with h0 | ⟨g,o,e,-,-,hc⟩
    ·rw [h0] at e2;simp at e2
    ·injection e with e;injection e with e3 e4 e5
     subst e3 e4
     obtain ⟨a,b,c⟩:=hc i x1 y1 e1 e2
     have hi2:=(List.getElem?_eq_some_iff.1 e2).1
     have q1:=hs ⟨G,O+i * 2,none⟩ (by intro e;injection e with a1 a2;omega) (by intro e;injection e with a1 a2;omega)
     have q2:=hs ⟨G,O+i * 2+1,none⟩ (by intro e;injection e with a1 a2;omega) (by intro e;injection e with a1 a2;omega)
     exact ⟨q1.1.trans a,q1.2.trans b,q2.1.trans c⟩
   ·have:=(List.getElem?_eq_some_iff.1 e1).1
    have h9:vs.length=l.length:=hn
    omega
  ·rcases getElem?_push e2 with e2 | ⟨i2,rfl⟩
   ·have:=(List.getElem?_eq_some_iff.1 e2).1
    omega
   ·subst i2
    exact ⟨h1,h2,h3⟩
 ·rcases getElem?_push e1 with e1 | ⟨i1,rfl⟩
  ·rcases getElem?_push e2 with e2 | ⟨i2,rfl⟩
   ·have hv:=h.v i x1 y1 e1 e2
    refine ⟨hv.n,?_⟩
    rcases hv.c with h0 | ⟨g,o,es,b1,b2,hc⟩
    ·exact .inl h0
    ·refine .inr ⟨g,o,es,b1,b2,fun j hj=>?_⟩
     have q:=far x1 (List.mem_of_getElem? e1) ⟨g,o+j,none⟩ (mem_vAs.2 ⟨j,by rw [hv.n];exact hj,by rw [es];rfl⟩)
     exact ⟨q.1.trans (hc j hj).1,q.2.trans (hc j hj).2⟩
   ·have:=(List.getElem?_eq_some_iff.1 e1).1
    omega
  ·rcases getElem?_push e2 with e2 | ⟨i2,rfl⟩
   ·have:=(List.getElem?_eq_some_iff.1 e2).1
    omega
   ·exact hx
 ·injection e with e;injection e with e3 e4 e5
  subst e3
  rcases List.mem_append.1 hx' with hx' | hx'
  ·exact h.o x' hx' a ha G O rfl
  ·simp at hx'
   subst hx'
   exact hxg a ha
 ·show (rAs (some ⟨G,O,none⟩) (vs++[x]) 0).Nodup
  rw [rAs_app,Nat.zero_add]
  refine List.nodup_append.2 ⟨h.d,List.nodup_cons.2 ⟨fun hm=>hxg _ hm rfl,hxd⟩,fun a ha b hb e=>?_⟩
  subst e
  rcases mem_rAs.1 ha with ⟨i,hi',e⟩ | ⟨x',hx',hax⟩
  ·simp only [Nat.zero_add] at e
   rcases List.mem_cons.1 hb with hb | hb
   ·rw [e] at hb
    simp [adr] at hb
    omega
   ·exact hxg _ hb (by rw [e];rfl)
  ·rcases List.mem_cons.1 hb with hb | hb
   ·exact h.o x' hx' a hax G O rfl (by rw [hb];rfl)
   ·exact hd x' hx' a hax hb
end
section
set_option linter.unusedSimpArgs false
set_option linter.unusedVariables false
set_option maxRecDepth 100000
open Go.RowKit
end
section
set_option linter.unusedSimpArgs false
set_option linter.unusedVariables false
set_option maxRecDepth 100000
open Go.RowKit
structure ND where
 who:Int
 v:Int
def NtR (w:World) (g off:Nat) (n:ND):Prop:=w.cell? ⟨g,off,none⟩=some (.int .i64 n.who)∧w.cell? ⟨g,off+1,none⟩=some (.int .i64 n.v)
def NtsR (w:World) (lo hi:Nat) (s:Option Addr) (l:List ND):Prop:=
 l=[]∨∃ g off,s=some ⟨g,off,none⟩∧lo≤g∧g < hi∧∀ (i:Nat) (n:ND),l[i]? =some n→NtR w g (off+i * 2) n
theorem NtsR.keep {w w':World} {lo hi:Nat} {s:Option Addr} {l:List ND} (h:NtsR w lo hi s l) (hb:Keep lo hi w w'):NtsR w' lo hi s l:=by
 rcases h with h | ⟨g,o,hs,h1,h2,hc⟩
 ·exact .inl h
 ·exact .inr ⟨g,o,hs,h1,h2,fun i r hi=>⟨(hb.cell h1 h2).trans (hc i r hi).1,(hb.cell h1 h2).trans (hc i r hi).2⟩⟩
theorem NtsR.mono {w:World} {lo hi lo' hi':Nat} {s:Option Addr} {l:List ND} (h:NtsR w lo hi s l) (h1:lo'≤lo) (h2:hi≤hi'):NtsR w lo' hi' s l:=by
 rcases h with h | ⟨g,o,hs,a,b,hc⟩
 ·exact .inl h
 ·exact .inr ⟨g,o,hs,by omega,by omega,hc⟩
def flatN:List ND→List Value
 | []=>[]
 | x::t=>[.int .i64 x.who,.int .i64 x.v]++flatN t
theorem flatN_app:∀ (a b:List ND),flatN (a++b)=flatN a++flatN b
 | [],b=>rfl
 | x::r,b=>by simp [flatN,flatN_app r b]
theorem flatN_at:∀ (L:List ND) (i:Nat) (x:ND),L[i]? =some x→(flatN L)[i * 2]? =some (.int .i64 x.who)∧(flatN L)[i * 2+1]? =some (.int .i64 x.v)
 | [],i,x,h=>by simp at h
 | y::r,0,x,h=>by
  simp at h
  subst h
  exact ⟨rfl,rfl⟩
 | y::r,i+1,x,h=>by
  have h':r[i]? =some x:=by simpa using h
  have e:=flatN_at r i x h'
  have e0:(i+1) * 2=i * 2+2:=by omega
  rw [e0]
  exact e
def OwnD (w:World) (base:Nat) (v:Value) (l:List ND):Prop:=w.ownsRow base 96 2 v l.length (flatN l)
end
section
set_option linter.unusedSimpArgs false
set_option linter.unusedVariables false
set_option maxRecDepth 100000
open Go.RowKit
theorem news_row {w:World} {g o:Nat} {l:List Int} (hc:∀ i,i < l.length→w.cell? ⟨g,o+i,none⟩=some (.int .i64 (l.getD i 0))):∀ j u,(l.map (Value.int .i64))[j]? =some u→w.cell? (Addr.add ⟨g,o,none⟩ j)=some u:=by
 intro j u hu
 rw [List.getElem?_map] at hu
 by_cases hj:j < l.length
 ·have e:(Addr.add ⟨g,o,none⟩ j)=⟨g,o+j,none⟩:=by
   by_cases h:j=0
   ·subst h;rfl
   ·simp [Addr.add,h]
  rw [e,hc j hj]
  rw [List.getElem?_eq_getElem hj] at hu
  simp at hu
  rw [← hu]
  simp [List.getD_eq_getElem?_getD,List.getElem?_eq_getElem hj]
 ·rw [List.getElem?_eq_none (by omega)] at hu
  cases hu
theorem app_row {ops : Array Oper} {rest : List Oper} {o : Oper} {a : Act} {Q : Exit → Act → World → Prop} (hgd : o.guard = none) (s x : Operand) (ho : o.op = .call { callee := .builtin .append, args := #[s, x], argTypes := #[24, 24] })
  (w:World) (base:Nat) (v:Value) (ls:List Int) (hs:a.eval s=v) (hown:OwnN w base v ls) (g0 o0 c:Nat) (l:List Int) (hx:a.eval x=.slice (some ⟨g0,o0,none⟩) l.length c) (hc:∀ i,i < l.length→w.cell? ⟨g0,o0+i,none⟩=some (.int .i64 (l.getD i 0)))
  (hl:0 < l.length) (hn:ls.length+l.length≤1099511627776) (hbase:base≤w.heap.size)
  (h:∀ g cap w',OwnN w' base (.slice (some ⟨g,0,none⟩) (ls.length+l.length) cap) (ls++l)→Below base w w'→g < w'.heap.size→base≤g→wpList Tryz.prog ops Q rest (a.put o.dst (.slice (some ⟨g,0,none⟩) (ls.length+l.length) cap)) w'):
  wpList Tryz.prog ops Q (o::rest) a w:=by
 obtain ⟨i0,hi,hz0,hz1,hz2⟩:=infoInt
 refine wpList_append_lies _ hgd s x 24 ho base 3 i0 _ 1 8 Tryz.underlying24 hi hz0 hz1 hz2 rfl (by decide) v ls.length _ hs hown ⟨g0,o0,none⟩ l.length c (l.map (Value.int .i64)) hx (by simp) (news_row hc) (fun u hu=>by obtain ⟨z,-,rfl⟩:=List.mem_map.1 hu;rfl) hl (by unfold maxLen;omega) (by omega) hbase _ rfl ?_
 intro g cap w' q1 q2 q3 q4
 have hb:Below base w w':=Below.grown (Below.refl _ _) q2 hbase (fun j hj=>(World.ownsRow.lt hown _ hj).1)
 have ho':OwnN w' base (.slice (some ⟨g,0,none⟩) (ls.length+l.length) cap) (ls++l):=by
  show w'.ownsRow base 3 1 _ (ls++l).length ((ls++l).map (Value.int .i64))
  rw [List.map_append,List.length_append]
  exact q1
 refine h g cap w' ho' hb q4 ?_
 rcases q3 with q3 | q3
 ·exact (World.ownsRow.lt hown _ q3).1
 ·omega
theorem step_row {ops : Array Oper} {o : Oper} {a : Act} {K : Act → World → Prop} {Q : Exit → Act → World → Prop} {E : Prop} (hgd : o.guard = none) (s x : Operand) (ho : o.op = .call { callee := .builtin .append, args := #[s, x], argTypes := #[24, 24] })
  (w:World) (base:Nat) (v:Value) (ls:List Int) (hs:a.eval s=v) (hown:OwnN w base v ls) (g0 o0 c:Nat) (l:List Int) (hx:a.eval x=.slice (some ⟨g0,o0,none⟩) l.length c) (hc:∀ i,i < l.length→w.cell? ⟨g0,o0+i,none⟩=some (.int .i64 (l.getD i 0)))
  (hl:0 < l.length) (hn:ls.length+l.length≤1099511627776) (hbase:base≤w.heap.size)
  (h:∀ g cap w',OwnN w' base (.slice (some ⟨g,0,none⟩) (ls.length+l.length) cap) (ls++l)→Below base w w'→g < w'.heap.size→base≤g→K (a.put o.dst (.slice (some ⟨g,0,none⟩) (ls.length+l.length) cap)) w'):
  if Region.wanted o (yielded ops a.tmps)=true then Oper.wp Tryz.prog o a w K Q else E:=by
 obtain ⟨i0,hi,hz0,hz1,hz2⟩:=infoInt
 refine step_append_lies _ hgd s x 24 ho base 3 i0 _ 1 8 Tryz.underlying24 hi hz0 hz1 hz2 rfl (by decide) v ls.length _ hs hown ⟨g0,o0,none⟩ l.length c (l.map (Value.int .i64)) hx (by simp) (news_row hc) (fun u hu=>by obtain ⟨z,-,rfl⟩:=List.mem_map.1 hu;rfl) hl (by unfold maxLen;omega) (by omega) hbase _ rfl ?_
 intro g cap w' q1 q2 q3 q4
 have hb:Below base w w':=Below.grown (Below.refl _ _) q2 hbase (fun j hj=>(World.ownsRow.lt hown _ hj).1)
 have ho':OwnN w' base (.slice (some ⟨g,0,none⟩) (ls.length+l.length) cap) (ls++l):=by
  show w'.ownsRow base 3 1 _ (ls++l).length ((ls++l).map (Value.int .i64))
  rw [List.map_append,List.length_append]
  exact q1
 refine h g cap w' ho' hb q4 ?_
 rcases q3 with q3 | q3
 ·exact (World.ownsRow.lt hown _ q3).1
 ·omega
theorem run_append_zero (w : World) (base : Nat) (v : Value) (ls : List Int) (hown : OwnN w base v ls) (s : Option Addr) (c : Nat) :
  (Builtin.append_ #[24,24] 24 #[v,.slice s 0 c]).run Tryz.prog w=.ok v w:=by
 obtain ⟨i0,hi,hz0,hz1,hz2⟩:=infoInt
 rcases hown.2 with ⟨rfl,-⟩ | ⟨g,cap,cur,rfl,_,_,hnc,_⟩
 ·cases s<;>simp [Builtin.append_,run_underlying Tryz.underlying24,sizeOf,typeInfo,hi,Builtin.lenOf,Builtin.firstCells,loadCells,loadCellsFrom,storeCells]
 ·cases s<;>simp [Builtin.append_,run_underlying Tryz.underlying24,sizeOf,typeInfo,hi,Builtin.lenOf,Builtin.firstCells,hnc,storeCells,loadCells,loadCellsFrom,storeCells]
structure Copied (w w':World) (sv:Option Addr) (cv:Nat) (base n:Nat) (s':Option Addr) (c':Nat):Prop where
 far:∀ k,k < w.heap.size→(Value.slice sv 0 cv).ownBlock≠some k→w'.heap[k]? =w.heap[k]?
 low:Below base w w'
 blk:∀ k,(Value.slice s' n c').ownBlock=some k→w.heap.size≤k∨(Value.slice sv 0 cv).ownBlock=some k
theorem wp_copyI {o : Oper} {a : Act} {w : World} {K : Act → World → Prop} {Q : Exit → Act → World → Prop} (s x : Operand) (hty : o.type = 24) (ho : o.op = .call { callee := .builtin .append, args := #[s, x], argTypes := #[24, 24] })
  (base:Nat) (sv:Option Addr) (cv:Nat) (hs:a.eval s=.slice sv 0 cv) (hown:OwnN w base (.slice sv 0 cv) []) (sx:Option Addr) (c:Nat) (l:List Int) {lo hi:Nat} (hx:a.eval x=.slice sx l.length c) (hr:IntsR w lo hi sx l) (hn:l.length≤1073741824) (hbase:base≤w.heap.size)
  (h:∀ s' c' w',OwnN w' base (.slice s' l.length c') l→Copied w w' sv cv base l.length s' c'→K (a.put o.dst (.slice s' l.length c')) w'):Oper.wp Tryz.prog o a w K Q:=by
 rcases hr with rfl | ⟨g,off,rfl,h1,h2,hc⟩
 ·have hrun:=run_append_zero w base _ _ hown sx c
  unfold Oper.wp
  simp at hx
  simp [execOp,ho,resolve,invoke,builtin,hs,hx,hty,hrun,Result.andThen]
  exact h sv cv w hown ⟨fun _ _ _=>rfl,Below.refl _ _,fun k hk=>.inr hk⟩
 ·rcases Nat.eq_zero_or_pos l.length with h0 | hl
  ·have e:=List.length_eq_zero_iff.1 h0
   subst e
   have hrun:=run_append_zero w base _ _ hown (some ⟨g,off,none⟩) c
   unfold Oper.wp
   simp at hx
   simp [execOp,ho,resolve,invoke,builtin,hs,hx,hty,hrun,Result.andThen]
   exact h sv cv w hown ⟨fun _ _ _=>rfl,Below.refl _ _,fun k hk=>.inr hk⟩
  ·obtain ⟨i0,hi0,hz0,hz1,hz2⟩:=infoInt
   refine wp_append_lies w s x 24 ho base 3 i0 _ 1 8 Tryz.underlying24 hi0 hz0 hz1 hz2 rfl (by decide) _ 0 _ hs hown ⟨g,off,none⟩ l.length c (l.map (Value.int .i64)) hx (by simp) (news_row hc) (fun u hu=>by obtain ⟨z,-,rfl⟩:=List.mem_map.1 hu;rfl) hl (by unfold maxLen;omega) (by omega) hbase _ rfl ?_
   intro g' cap w' q1 q2 q3 q4
   have hb:Below base w w':=Below.grown (Below.refl _ _) q2 hbase (fun j hj=>(World.ownsRow.lt hown _ hj).1)
   rw [Nat.zero_add]
   rw [Nat.zero_add] at q1
   refine h _ _ w' (by show w'.ownsRow base 3 1 _ l.length (l.map (Value.int .i64));exact q1) ⟨fun k hk hne=>q2.block k hk (fun e=>hne e.symm),hb,fun k hk=>?_⟩
   injection hk with hk
   rcases q3 with q3 | q3
   ·exact .inr (by rw [q3];exact congrArg some hk)
   ·exact .inl (by have:g'=k:=hk;omega)
theorem app_copyI {ops : Array Oper} {rest : List Oper} {o : Oper} {a : Act} {Q : Exit → Act → World → Prop} (hgd : o.guard = none) (s x : Operand) (hty : o.type = 24) (ho : o.op = .call { callee := .builtin .append, args := #[s, x], argTypes := #[24, 24] }) (w : World)
  (base:Nat) (sv:Option Addr) (cv:Nat) (hs:a.eval s=.slice sv 0 cv) (hown:OwnN w base (.slice sv 0 cv) []) (sx:Option Addr) (c:Nat) (l:List Int) {lo hi:Nat} (hx:a.eval x=.slice sx l.length c) (hr:IntsR w lo hi sx l) (hn:l.length≤1073741824) (hbase:base≤w.heap.size)
  (h:∀ s' c' w',OwnN w' base (.slice s' l.length c') l→Copied w w' sv cv base l.length s' c'→wpList Tryz.prog ops Q rest (a.put o.dst (.slice s' l.length c')) w'):wpList Tryz.prog ops Q (o::rest) a w:=
 wpList_plain hgd fun _ hK=>wp_copyI s x hty ho base sv cv hs hown sx c l hx hr hn hbase fun s' c' w' h1 h2=>hK _ _ (h s' c' w' h1 h2)
end
end Go.Proofs.YtkhjhibigldcgaaGreat
