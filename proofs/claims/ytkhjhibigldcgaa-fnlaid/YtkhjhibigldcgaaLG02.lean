/- Rows of steps that are written over with running numbers and looked at again; how long the code of a place is. Conditions: at most a thousand steps. Memories as they lie: cells, each a row of writes, each write with its view; read, and owned with the places of their integers. No condition. ViewOk and MemoryOk, of the program and of the specification. Conditions: lists of at most 2^20 + 100. Base of the program and of the specification: where a channel begins. Conditions: lists of at most 2^20 + 100. The last number of a cell, and the places of a channel's cells. Conditions: the memory is right. Memories written over with running numbers, place by place, and looked at again. Conditions: fewer than 2^20 + 101 integers. Rows of records, each of integers and of rows of integers, as they lie in memory with the places of their integers; how marks go over them. No condition. How the laws copy memories into new memory. Conditions: they are counted. Rows of notes as they lie in memory, and how the laws count, copy and compare them. Conditions: each list of at most 1048576. -/
import Derived.Test.YtkhjhibigldcgaaLG00
import Derived.Test.YtkhjhibigldcgaaLG01
import Derived.Deep.QuietTactic
import Derived.BigQuiet
import Derived.Deep.RegionWith
namespace Go.Proofs.Ytkhjhibigldcgaa
section
set_option linter.unusedSimpArgs false
set_option linter.unusedVariables false
set_option maxRecDepth 100000
open Go.RowKit
/- the places of a memory's integers, in the order in which they are written over -/
structure VS where
 s:Option Addr
 n:Nat
 c:Nat
def adr:Option Addr→Nat→Addr
 | some a,i=>⟨a.block,a.off+i,none⟩
 | none,_=>⟨0,0,none⟩
def vAs (x:VS):List Addr:=(List.range x.n).map (adr x.s)
theorem mem_vAs {x:VS} {a:Addr}:a∈vAs x↔∃ i,i < x.n∧a=adr x.s i:=by
 simp [vAs]
 constructor
 ·rintro ⟨i,h,rfl⟩;exact ⟨i,h,rfl⟩
 ·rintro ⟨i,h,rfl⟩;exact ⟨i,h,rfl⟩
theorem Keep.frozen {lo hi:Nat} {w w':World} (h:Keep lo hi w w') {p:Addr} (h1:lo≤p.block) (h2:p.block < hi):w'.frozen? p=w.frozen? p:=World.frozen?_of_block (w:=w) (h p.block h1 h2)
theorem getElem?_push {α:Type} {l:List α} {y x:α} {i:Nat} (h:(l++[y])[i]? =some x):l[i]? =some x∨(i=l.length∧x=y):=by
 by_cases hi:i < l.length
 ·rw [List.getElem?_append_left hi] at h;exact .inl h
 ·have:=(List.getElem?_eq_some_iff.1 h).1
  simp at this
  have e:i=l.length:=by omega
  subst e
  simp at h
  exact .inr ⟨rfl,h.symm⟩
def IntC (w:World) (lo hi:Nat) (a:Addr):Prop:=(∃ z,w.cell? a=some (.int .i64 z))∧w.frozen? a=false∧lo≤a.block∧a.block < hi
def Somewhere (s:Option Addr):Prop:=∃ g o,s=some ⟨g,o,none⟩
def VS.wide (x:VS) (e:Nat):VS:=⟨x.s,x.n * e,x.c⟩
/- a row of steps, its block between two -/
structure SB5 (w:World) (lo hi:Nat) (v:Value) (l:List I5):Prop where
 o:OwnT5 w lo v l
 h:∀ k,v.ownBlock=some k→k < hi
theorem SB5.of {w:World} {lo:Nat} {v:Value} {l:List I5} (h:OwnT5 w lo v l):SB5 w lo w.heap.size v l:=⟨h,fun _ hk=>(World.ownsRow.lt h _ hk).2⟩
theorem own5_sl {w:World} {lo:Nat} {v:Value} {l:List I5} (h:OwnT5 w lo v l):∃ s c,v=.slice s l.length c:=by
 rcases h.2 with ⟨h1,h2⟩ | ⟨g,cap,cur,a,-⟩
 ·exact ⟨none,0,by rw [h1,h2]⟩
 ·exact ⟨_,_,a⟩
theorem SB5.insB {w:World} {lo hi:Nat} {s:Option Addr} {c:Nat} {l:List I5} (h:SB5 w lo hi (.slice s l.length c) l):InsB w w.heap.size s l:=by
 rcases Nat.eq_zero_or_pos l.length with h0 | hp
 ·exact .inl (List.length_eq_zero_iff.1 h0)
 ·obtain ⟨g,cap,e,-,hlt⟩:=World.ownsRow.form h.o hp
  injection e with e1 e2 e3
  subst e1
  rcases h.o.insR with e | ⟨g',o',e,-,hl,hc⟩
  ·rw [e] at hp;simp at hp
  ·injection e with e
   injection e with e1 e2
   subst e1 e2
   exact .inr ⟨g,0,rfl,hlt,hc⟩
theorem chanM_len (o r a x rm b fr:Int):(chanM o r a x rm b fr).length≤40:=by
 unfold chanM
 repeat' split
 all_goals
  rw [togL_len]
  simp [lens,lockR,askR,faultR,openR,roundR,putR,letR,triedR,takenR,roundT,keepT,keepR,noneT,noneR,cameR]
theorem emitM_len (caps starts:List Int) (o r a x n fr:Int):(emitM caps starts o r a x n fr).length≤40:=by
 unfold emitM
 repeat' split
 all_goals first | (exact chanM_len _ _ _ _ _ _ _) | simp
end
section
set_option linter.unusedSimpArgs false
set_option linter.unusedVariables false
set_option maxRecDepth 100000
open Go.RowKit
structure WD where
 v:Int
 vw:List Int
def WR (w:World) (lo hi g off:Nat) (x:WD):Prop:=
 ∃ s c,w.cell? ⟨g,off,none⟩=some (.int .i64 x.v)∧w.cell? ⟨g,off+1,none⟩=some (.slice s x.vw.length c)∧IntsR w lo hi s x.vw
def WsR (w:World) (lo hi:Nat) (s:Option Addr) (l:List WD):Prop:=
 l=[]∨∃ g off,s=some ⟨g,off,none⟩∧lo≤g∧g < hi∧∀ (i:Nat) (x:WD),l[i]? =some x→WR w lo hi g (off+i * 2) x
def RwR (w:World) (lo hi g off:Nat) (l:List WD):Prop:=∃ s c,w.cell? ⟨g,off,none⟩=some (.slice s l.length c)∧WsR w lo hi s l
def MemR (w:World) (lo hi:Nat) (s:Option Addr) (m:List (List WD)):Prop:=
 m=[]∨∃ g off,s=some ⟨g,off,none⟩∧lo≤g∧g < hi∧∀ (i:Nat) (l:List WD),m[i]? =some l→RwR w lo hi g (off+i) l
theorem WR.keep {w w':World} {lo hi g off:Nat} {x:WD} (h:WR w lo hi g off x) (hb:Keep lo hi w w') (hc:∀ j,w'.cell? ⟨g,j,none⟩=w.cell? ⟨g,j,none⟩):WR w' lo hi g off x:=by
 obtain ⟨s,c,h1,h2,h3⟩:=h
 exact ⟨s,c,(hc _).trans h1,(hc _).trans h2,h3.keep hb⟩
theorem WsR.keep {w w':World} {lo hi:Nat} {s:Option Addr} {l:List WD} (h:WsR w lo hi s l) (hb:Keep lo hi w w'):WsR w' lo hi s l:=by
 rcases h with h | ⟨g,o,hs,h1,h2,hc⟩
 ·exact .inl h
 ·exact .inr ⟨g,o,hs,h1,h2,fun i r hi=>(hc i r hi).keep hb (fun j=>hb.cell h1 h2)⟩
theorem RwR.keep {w w':World} {lo hi g off:Nat} {l:List WD} (h:RwR w lo hi g off l) (hb:Keep lo hi w w') (hc:∀ j,w'.cell? ⟨g,j,none⟩=w.cell? ⟨g,j,none⟩):RwR w' lo hi g off l:=by
 obtain ⟨s,c,h1,h2⟩:=h
 exact ⟨s,c,(hc _).trans h1,h2.keep hb⟩
theorem MemR.keep {w w':World} {lo hi:Nat} {s:Option Addr} {m:List (List WD)} (h:MemR w lo hi s m) (hb:Keep lo hi w w'):MemR w' lo hi s m:=by
 rcases h with h | ⟨g,o,hs,h1,h2,hc⟩
 ·exact .inl h
 ·exact .inr ⟨g,o,hs,h1,h2,fun i r hi=>(hc i r hi).keep hb (fun j=>hb.cell h1 h2)⟩
theorem WR.mono {w:World} {lo hi lo' hi' g off:Nat} {x:WD} (h:WR w lo hi g off x) (h1:lo'≤lo) (h2:hi≤hi'):WR w lo' hi' g off x:=by
 obtain ⟨s,c,a,b,d⟩:=h
 exact ⟨s,c,a,b,d.mono h1 h2⟩
theorem WsR.mono {w:World} {lo hi lo' hi':Nat} {s:Option Addr} {l:List WD} (h:WsR w lo hi s l) (h1:lo'≤lo) (h2:hi≤hi'):WsR w lo' hi' s l:=by
 rcases h with h | ⟨g,o,hs,a,b,hc⟩
 ·exact .inl h
 ·exact .inr ⟨g,o,hs,by omega,by omega,fun i r hi=>(hc i r hi).mono h1 h2⟩
theorem MemR.mono {w:World} {lo hi lo' hi':Nat} {s:Option Addr} {m:List (List WD)} (h:MemR w lo hi s m) (h1:lo'≤lo) (h2:hi≤hi'):MemR w lo' hi' s m:=by
 rcases h with h | ⟨g,o,hs,a,b,hc⟩
 ·exact .inl h
 ·exact .inr ⟨g,o,hs,by omega,by omega,fun i r hi=>by obtain ⟨s',c',e1,e2⟩:=hc i r hi;exact ⟨s',c',e1,e2.mono h1 h2⟩⟩
theorem MemR.row {w:World} {lo hi:Nat} {s:Option Addr} {m:List (List WD)} (h:MemR w lo hi s m) {i:Nat} {l:List WD} (hi':m[i]? =some l):∃ g off s' c',s=some ⟨g,off,none⟩∧lo≤g∧g < hi∧w.cell? ⟨g,off+i,none⟩=some (.slice s' l.length c')∧WsR w lo hi s' l:=by
 rcases h with rfl | ⟨g,o,hs,a,b,hc⟩
 ·simp at hi'
 ·obtain ⟨s',c',e1,e2⟩:=hc i l hi'
  exact ⟨g,o,s',c',hs,a,b,e1,e2⟩
theorem WsR.at {w:World} {lo hi:Nat} {s:Option Addr} {l:List WD} (h:WsR w lo hi s l) {i:Nat} {x:WD} (hi':l[i]? =some x):∃ g off s' c',s=some ⟨g,off,none⟩∧lo≤g∧g < hi∧w.cell? ⟨g,off+i * 2,none⟩=some (.int .i64 x.v)∧w.cell? ⟨g,off+i * 2+1,none⟩=some (.slice s' x.vw.length c')∧IntsR w lo hi s' x.vw:=by
 rcases h with rfl | ⟨g,o,hs,a,b,hc⟩
 ·simp at hi'
 ·obtain ⟨s',c',e1,e2,e3⟩:=hc i x hi'
  exact ⟨g,o,s',c',hs,a,b,e1,e2,e3⟩
def szV:List WD→Nat
 | []=>0
 | x::r=>x.vw.length+szV r
def szR:List (List WD)→Nat
 | []=>0
 | l::r=>l.length+szV l+szR r
def MFits (m:List (List WD)):Prop:=m.length+szR m≤1048576
theorem szV_take:∀ (l:List WD) (k:Nat) (x:WD),l[k]? =some x→szV (l.take (k+1))=szV (l.take k)+x.vw.length
 | [],k,x,h=>by simp at h
 | y::r,0,x,h=>by simp at h;subst h;simp [szV]
 | y::r,k+1,x,h=>by
  have:=szV_take r k x (by simpa using h)
  simp [szV,this]
  omega
theorem szR_take:∀ (m:List (List WD)) (k:Nat) (l:List WD),m[k]? =some l→szR (m.take (k+1))=szR (m.take k)+(l.length+szV l)
 | [],k,x,h=>by simp at h
 | y::r,0,x,h=>by simp at h;subst h;simp [szR]
 | y::r,k+1,x,h=>by
  have:=szR_take r k x (by simpa using h)
  simp [szR,this]
  omega
theorem szV_at:∀ (l:List WD) (k:Nat) (x:WD),l[k]? =some x→x.vw.length≤szV l
 | [],k,x,h=>by simp at h
 | y::r,0,x,h=>by simp at h;subst h;simp [szV]
 | y::r,k+1,x,h=>by
  have:=szV_at r k x (by simpa using h)
  simp [szV]
  omega
theorem szR_at:∀ (m:List (List WD)) (k:Nat) (l:List WD),m[k]? =some l→l.length+szV l≤szR m
 | [],k,x,h=>by simp at h
 | y::r,0,x,h=>by simp at h;subst h;simp [szR]
 | y::r,k+1,x,h=>by
  have:=szR_at r k x (by simpa using h)
  simp [szR]
  omega
theorem MFits.n {m:List (List WD)} (h:MFits m):m.length≤1048576:=by unfold MFits at h;omega
theorem MFits.r {m:List (List WD)} (h:MFits m) {i:Nat} {l:List WD} (hi:m[i]? =some l):l.length+szV l≤1048576:=by have:=szR_at m i l hi;unfold MFits at h;omega
structure RS where
 s:Option Addr
 c:Nat
 vs:List VS
def rAs (s:Option Addr):List VS→Nat→List Addr
 | [],_=>[]
 | x::r,k=>adr s (k * 2)::(vAs x++rAs s r (k+1))
def mAs:List RS→List Addr
 | []=>[]
 | r::t=>rAs r.s r.vs 0++mAs t
theorem rAs_app (s:Option Addr) (x:VS):∀ (vs:List VS) (k:Nat),rAs s (vs++[x]) k=rAs s vs k++adr s ((k+vs.length) * 2)::vAs x
 | [],k=>by simp [rAs]
 | y::r,k=>by
  have h:=rAs_app s x r (k+1)
  have e:k+1+r.length=k+(r.length+1):=by omega
  simp [rAs,h,e]
theorem mAs_app (x:RS):∀ (S:List RS),mAs (S++[x])=mAs S++rAs x.s x.vs 0
 | []=>by simp [mAs]
 | r::t=>by simp [mAs,mAs_app x t]
theorem mem_rAs {s:Option Addr} {a:Addr}:∀ {vs:List VS} {k:Nat},a∈rAs s vs k↔(∃ i,i < vs.length∧a=adr s ((k+i) * 2))∨∃ x∈vs,a∈vAs x
 | [],k=>by simp [rAs]
 | y::r,k=>by
  simp only [rAs,List.mem_cons,List.mem_append,mem_rAs (vs:=r) (k:=k+1)]
  constructor
  ·rintro (h | h | ⟨i,h,e⟩ | ⟨x,h,e⟩)
   ·exact .inl ⟨0,by simp,by simpa using h⟩
   ·exact .inr ⟨y,.inl rfl,h⟩
   ·exact .inl ⟨i+1,by simpa using h,by rw [e];congr 2;omega⟩
   ·exact .inr ⟨x,.inr h,e⟩
  ·rintro (⟨i,h,e⟩ | ⟨x,h | h,e⟩)
   ·rcases Nat.eq_zero_or_pos i with rfl | hp
    ·exact .inl (by simpa using e)
    ·refine .inr (.inr (.inl ⟨i - 1,by simp at h;omega,?_⟩))
     rw [e];congr 2;omega
   ·subst h;exact .inr (.inl e)
   ·exact .inr (.inr (.inr ⟨x,h,e⟩))
theorem mem_mAs {a:Addr}:∀ {S:List RS},a∈mAs S↔∃ r∈S,a∈rAs r.s r.vs 0
 | []=>by simp [mAs]
 | r::t=>by simp [mAs,mem_mAs (S:=t)]
theorem vAs_nodup {x:VS} {g o:Nat} (h:x.s=some ⟨g,o,none⟩):(vAs x).Nodup:=by
 unfold vAs
 rw [h]
 refine List.Pairwise.map _ (fun a b hab e=>?_) List.nodup_range
 simp [adr] at e
 exact hab e
/- owned: with the places -/
structure VO (w:World) (lo hi:Nat) (x:VS) (l:List Int):Prop where
 n:x.n=l.length
 c:l=[]∨∃ g o,x.s=some ⟨g,o,none⟩∧lo≤g∧g < hi∧∀ i,i < l.length→w.cell? ⟨g,o+i,none⟩=some (.int .i64 (l.getD i 0))∧w.frozen? ⟨g,o+i,none⟩=false
structure RO (w:World) (lo hi:Nat) (r:RS) (l:List WD):Prop where
 n:r.vs.length=l.length
 c:l=[]∨∃ g o,r.s=some ⟨g,o,none⟩∧lo≤g∧g < hi∧∀ (i:Nat) (x:VS) (y:WD),r.vs[i]? =some x→l[i]? =some y→w.cell? ⟨g,o+i * 2,none⟩=some (.int .i64 y.v)∧w.frozen? ⟨g,o+i * 2,none⟩=false∧w.cell? ⟨g,o+i * 2+1,none⟩=some (.slice x.s x.n x.c)
 v:∀ (i:Nat) (x:VS) (y:WD),r.vs[i]? =some x→l[i]? =some y→VO w lo hi x y.vw
 o:∀ x∈r.vs,∀ a∈vAs x,∀ g o,r.s=some ⟨g,o,none⟩→a.block≠g
 d:(rAs r.s r.vs 0).Nodup
structure MO (w:World) (lo hi:Nat) (so:Option Addr) (S:List RS) (m:List (List WD)):Prop where
 n:S.length=m.length
 c:m=[]∨∃ g o,so=some ⟨g,o,none⟩∧lo≤g∧g < hi∧∀ (i:Nat) (r:RS),S[i]? =some r→w.cell? ⟨g,o+i,none⟩=some (.slice r.s r.vs.length r.c)
 r:∀ (i:Nat) (r:RS) (l:List WD),S[i]? =some r→m[i]? =some l→RO w lo hi r l
 d:(mAs S).Nodup
theorem VO.keep {w w':World} {lo hi:Nat} {x:VS} {l:List Int} (h:VO w lo hi x l) (hb:Keep lo hi w w'):VO w' lo hi x l:=by
 refine ⟨h.n,?_⟩
 rcases h.c with h | ⟨g,o,hs,h1,h2,hc⟩
 ·exact .inl h
 ·exact .inr ⟨g,o,hs,h1,h2,fun i hi=>⟨(hb.cell (p:=⟨g,o+i,none⟩) h1 h2).trans (hc i hi).1,(hb.frozen (p:=⟨g,o+i,none⟩) h1 h2).trans (hc i hi).2⟩⟩
theorem RO.keep {w w':World} {lo hi:Nat} {r:RS} {l:List WD} (h:RO w lo hi r l) (hb:Keep lo hi w w'):RO w' lo hi r l:=by
 refine ⟨h.n,?_,fun i x y hx hy=>(h.v i x y hx hy).keep hb,h.o,h.d⟩
 rcases h.c with h | ⟨g,o,hs,h1,h2,hc⟩
 ·exact .inl h
 ·refine .inr ⟨g,o,hs,h1,h2,fun i x y hx hy=>?_⟩
  obtain ⟨a,b,c⟩:=hc i x y hx hy
  exact ⟨(hb.cell (p:=⟨g,o+i * 2,none⟩) h1 h2).trans a,(hb.frozen (p:=⟨g,o+i * 2,none⟩) h1 h2).trans b,(hb.cell (p:=⟨g,o+i * 2+1,none⟩) h1 h2).trans c⟩
theorem MO.keep {w w':World} {lo hi:Nat} {so:Option Addr} {S:List RS} {m:List (List WD)} (h:MO w lo hi so S m) (hb:Keep lo hi w w'):MO w' lo hi so S m:=by
 refine ⟨h.n,?_,fun i r l hr hl=>(h.r i r l hr hl).keep hb,h.d⟩
 rcases h.c with h | ⟨g,o,hs,h1,h2,hc⟩
 ·exact .inl h
 ·exact .inr ⟨g,o,hs,h1,h2,fun i r hr=>(hb.cell (p:=⟨g,o+i,none⟩) h1 h2).trans (hc i r hr)⟩
theorem VO.mono {w:World} {lo hi lo' hi':Nat} {x:VS} {l:List Int} (h:VO w lo hi x l) (a:lo'≤lo) (b:hi≤hi'):VO w lo' hi' x l:=by
 refine ⟨h.n,?_⟩
 rcases h.c with h | ⟨g,o,hs,h1,h2,hc⟩
 ·exact .inl h
 ·exact .inr ⟨g,o,hs,by omega,by omega,hc⟩
theorem RO.mono {w:World} {lo hi lo' hi':Nat} {r:RS} {l:List WD} (h:RO w lo hi r l) (a:lo'≤lo) (b:hi≤hi'):RO w lo' hi' r l:=by
 refine ⟨h.n,?_,fun i x y hx hy=>(h.v i x y hx hy).mono a b,h.o,h.d⟩
 rcases h.c with h | ⟨g,o,hs,h1,h2,hc⟩
 ·exact .inl h
 ·exact .inr ⟨g,o,hs,by omega,by omega,hc⟩
theorem MO.mono {w:World} {lo hi lo' hi':Nat} {so:Option Addr} {S:List RS} {m:List (List WD)} (h:MO w lo hi so S m) (a:lo'≤lo) (b:hi≤hi'):MO w lo' hi' so S m:=by
 refine ⟨h.n,?_,fun i r l hr hl=>(h.r i r l hr hl).mono a b,h.d⟩
 rcases h.c with h | ⟨g,o,hs,h1,h2,hc⟩
 ·exact .inl h
 ·exact .inr ⟨g,o,hs,by omega,by omega,hc⟩
theorem at_same {α β:Type} {a:List α} {b:List β} (h:a.length=b.length) {i:Nat} {y:β} (hy:b[i]? =some y):∃ x,a[i]? =some x:=by
 have:=(List.getElem?_eq_some_iff.1 hy).1
 exact ⟨_,List.getElem?_eq_getElem (by omega)⟩
theorem VO.ints {w:World} {lo hi:Nat} {x:VS} {l:List Int} (h:VO w lo hi x l):IntsR w lo hi x.s l:=by
 rcases h.c with h | ⟨g,o,hs,h1,h2,hc⟩
 ·exact .inl h
 ·exact .inr ⟨g,o,hs,h1,h2,fun i hi=>(hc i hi).1⟩
theorem RO.ws {w:World} {lo hi:Nat} {r:RS} {l:List WD} (h:RO w lo hi r l):WsR w lo hi r.s l:=by
 rcases h.c with e | ⟨g,o,hs,h1,h2,hc⟩
 ·exact .inl e
 ·refine .inr ⟨g,o,hs,h1,h2,fun i y hy=>?_⟩
  obtain ⟨x,hx⟩:=at_same h.n hy
  obtain ⟨a,b,c⟩:=hc i x y hx hy
  have hv:=h.v i x y hx hy
  exact ⟨x.s,x.c,a,by rw [c,hv.n],hv.ints⟩
theorem MO.mem {w:World} {lo hi:Nat} {so:Option Addr} {S:List RS} {m:List (List WD)} (h:MO w lo hi so S m):MemR w lo hi so m:=by
 rcases h.c with e | ⟨g,o,hs,h1,h2,hc⟩
 ·exact .inl e
 ·refine .inr ⟨g,o,hs,h1,h2,fun i l hl=>?_⟩
  obtain ⟨r,hr⟩:=at_same h.n hl
  have hv:=h.r i r l hr hl
  exact ⟨r.s,r.c,by rw [hc i r hr,hv.n],hv.ws⟩
/- where the places lie -/
theorem VO.blk {w:World} {lo hi:Nat} {x:VS} {l:List Int} (h:VO w lo hi x l) {a:Addr} (ha:a∈vAs x):lo≤a.block∧a.block < hi:=by
 obtain ⟨i,hi',rfl⟩:=mem_vAs.1 ha
 rcases h.c with e | ⟨g,o,hs,h1,h2,hc⟩
 ·have:=h.n;rw [e] at this;simp at this;omega
 ·rw [hs];exact ⟨h1,h2⟩
theorem RO.blk {w:World} {lo hi:Nat} {r:RS} {l:List WD} (h:RO w lo hi r l) {a:Addr} (ha:a∈rAs r.s r.vs 0):lo≤a.block∧a.block < hi:=by
 rcases mem_rAs.1 ha with ⟨i,hi',rfl⟩ | ⟨x,hx,hax⟩
 ·rcases h.c with e | ⟨g,o,hs,h1,h2,hc⟩
  ·have:=h.n;rw [e] at this;simp at this;rw [this] at hi';simp at hi'
  ·rw [hs];exact ⟨h1,h2⟩
 ·obtain ⟨i,hi',e⟩:=List.getElem_of_mem hx
  have hl:i < l.length:=by have:=h.n;omega
  exact (h.v i x l[i] (by rw [List.getElem?_eq_getElem hi',e]) (List.getElem?_eq_getElem hl)).blk hax
theorem MO.blk {w:World} {lo hi:Nat} {so:Option Addr} {S:List RS} {m:List (List WD)} (h:MO w lo hi so S m) {a:Addr} (ha:a∈mAs S):lo≤a.block∧a.block < hi:=by
 obtain ⟨r,hr,har⟩:=mem_mAs.1 ha
 obtain ⟨i,hi',e⟩:=List.getElem_of_mem hr
 have hl:i < m.length:=by have:=h.n;omega
 exact (h.r i r m[i] (by rw [List.getElem?_eq_getElem hi',e]) (List.getElem?_eq_getElem hl)).blk har
theorem RO.nil (w:World) (lo hi:Nat) (s:Option Addr) (c:Nat):RO w lo hi ⟨s,c,[]⟩ []:=⟨rfl,.inl rfl,fun i x y hx=>by simp at hx,fun x hx=>by simp at hx,by simp [rAs]⟩
theorem MO.nil (w:World) (lo hi:Nat) (s:Option Addr):MO w lo hi s [] []:=⟨rfl,.inl rfl,fun i x y hx=>by simp at hx,by simp [mAs]⟩
theorem RO.far2 {w w':World} {lo hi:Nat} {r:RS} {l:List WD} (h:RO w lo hi r l) (hk:∀ a∈rAs r.s r.vs 0,w'.heap[a.block]? =w.heap[a.block]?):RO w' lo hi r l:=by
 refine ⟨h.n,?_,fun i x y e1 e2=>?_,h.o,h.d⟩
 ·rcases h.c with h0 | ⟨g,o,es,b1,b2,hc⟩
  ·exact .inl h0
  ·refine .inr ⟨g,o,es,b1,b2,fun i x y e1 e2=>?_⟩
   have hi':=(List.getElem?_eq_some_iff.1 e1).1
   have hne:w'.heap[g]? =w.heap[g]? :=by
    have:=hk (adr r.s (i * 2)) (mem_rAs.2 (.inl ⟨i,hi',by rw [Nat.zero_add]⟩))
    rw [es] at this
    exact this
   obtain ⟨a,b,c⟩:=hc i x y e1 e2
   exact ⟨(World.cell?_of_block (w:=w) hne).trans a,(World.frozen?_of_block (w:=w) hne).trans b,(World.cell?_of_block (w:=w) hne).trans c⟩
 ·have hv:=h.v i x y e1 e2
  refine ⟨hv.n,?_⟩
  rcases hv.c with h0 | ⟨g,o,es,b1,b2,hc⟩
  ·exact .inl h0
  ·refine .inr ⟨g,o,es,b1,b2,fun j hj=>?_⟩
   have hne:w'.heap[g]? =w.heap[g]? :=by
    have:=hk (adr x.s j) (mem_rAs.2 (.inr ⟨x,List.mem_of_getElem? e1,mem_vAs.2 ⟨j,by rw [hv.n];exact hj,rfl⟩⟩))
    rw [es] at this
    exact this
   exact ⟨(World.cell?_of_block (w:=w) hne).trans (hc j hj).1,(World.frozen?_of_block (w:=w) hne).trans (hc j hj).2⟩
/- a row grows by one write -/
theorem RO.push {w w' : World} {lo hi G O c : Nat} {vs : List VS} {l : List WD} (x : VS) (y : WD) (h : RO w lo hi ⟨some ⟨G, O, none⟩, c, vs⟩ l) (hG : lo ≤ G ∧ G < hi)
  (hs:∀ a:Addr,a≠⟨G,O+l.length * 2,none⟩→a≠⟨G,O+l.length * 2+1,none⟩→w'.cell? a=w.cell? a∧w'.frozen? a=w.frozen? a)
  (h1:w'.cell? ⟨G,O+l.length * 2,none⟩=some (.int .i64 y.v)) (h2:w'.frozen? ⟨G,O+l.length * 2,none⟩=false) (h3:w'.cell? ⟨G,O+l.length * 2+1,none⟩=some (.slice x.s x.n x.c))
  (hx:VO w' lo hi x y.vw) (hxg:∀ a∈vAs x,a.block≠G) (hxd:(vAs x).Nodup) (hd:∀ x'∈vs,∀ a∈vAs x',a∉vAs x):RO w' lo hi ⟨some ⟨G,O,none⟩,c,vs++[x]⟩ (l++[y]):=by
 have hn:vs.length=l.length:=h.n
 have far:∀ x'∈vs,∀ a∈vAs x',w'.cell? a=w.cell? a∧w'.frozen? a=w.frozen? a:=fun x' hx' a ha=>by
  have:=h.o x' hx' a ha G O rfl
  exact hs a (fun e=>this (by rw [e])) (fun e=>this (by rw [e]))
 refine ⟨by simp [hn],.inr ⟨G,O,rfl,hG.1,hG.2,fun i x1 y1 e1 e2=>?_⟩,fun i x1 y1 e1 e2=>?_,fun x' hx' a ha g o e=>?_,?_⟩
 ·rcases getElem?_push e1 with e1 | ⟨i1,rfl⟩
  ·rcases getElem?_push e2 with e2 | ⟨i2,rfl⟩
   ·rcases h.c with h0 | ⟨g,o,e,-,-,hc⟩
    ·rw [h0] at e2;simp at e2
    ·injection e with e;injection e with e3 e4 e5
     subst e3 e4
     obtain ⟨a,b,c⟩:=hc i x1 y1 e1 e2
     have hi2:=(List.getElem?_eq_some_iff.1 e2).1
     have q1:=hs ⟨G,O+i * 2,none⟩ (by intro e;injection e with a1 a2;omega) (by intro e;injection e with a1 a2;omega)
     have q2:=hs ⟨G,O+i * 2+1,none⟩ (by intro e;injection e with a1 a2;omega) (by intro e;injection e with a1 a2;omega)
     exact ⟨q1.1.trans a,q1.2.trans b,q2.1.trans c⟩
   ·have:=(List.getElem?_eq_some_iff.1 e1).1
    have h9:vs.length=l.length:=hn
    omega
  ·rcases getElem?_push e2 with e2 | ⟨i2,rfl⟩
   ·have:=(List.getElem?_eq_some_iff.1 e2).1
    omega
   ·subst i2
    exact ⟨h1,h2,h3⟩
 ·rcases getElem?_push e1 with e1 | ⟨i1,rfl⟩
  ·rcases getElem?_push e2 with e2 | ⟨i2,rfl⟩
   ·have hv:=h.v i x1 y1 e1 e2
    refine ⟨hv.n,?_⟩
    rcases hv.c with h0 | ⟨g,o,es,b1,b2,hc⟩
    ·exact .inl h0
    ·refine .inr ⟨g,o,es,b1,b2,fun j hj=>?_⟩
     have q:=far x1 (List.mem_of_getElem? e1) ⟨g,o+j,none⟩ (mem_vAs.2 ⟨j,by rw [hv.n];exact hj,by rw [es];rfl⟩)
     exact ⟨q.1.trans (hc j hj).1,q.2.trans (hc j hj).2⟩
   ·have:=(List.getElem?_eq_some_iff.1 e1).1
    omega
  ·rcases getElem?_push e2 with e2 | ⟨i2,rfl⟩
   ·have:=(List.getElem?_eq_some_iff.1 e2).1
    omega
   ·exact hx
 ·injection e with e;injection e with e3 e4 e5
  subst e3
  rcases List.mem_append.1 hx' with hx' | hx'
  ·exact h.o x' hx' a ha G O rfl
  ·simp at hx'
   subst hx'
   exact hxg a ha
 ·show (rAs (some ⟨G,O,none⟩) (vs++[x]) 0).Nodup
  rw [rAs_app,Nat.zero_add]
  refine List.nodup_append.2 ⟨h.d,List.nodup_cons.2 ⟨fun hm=>hxg _ hm rfl,hxd⟩,fun a ha b hb e=>?_⟩
  subst e
  rcases mem_rAs.1 ha with ⟨i,hi',e⟩ | ⟨x',hx',hax⟩
  ·simp only [Nat.zero_add] at e
   rcases List.mem_cons.1 hb with hb | hb
   ·rw [e] at hb
    simp [adr] at hb
    omega
   ·exact hxg _ hb (by rw [e];rfl)
  ·rcases List.mem_cons.1 hb with hb | hb
   ·exact h.o x' hx' a hax G O rfl (by rw [hb];rfl)
   ·exact hd x' hx' a hax hb
end
section
set_option linter.unusedSimpArgs false
set_option linter.unusedVariables false
set_option maxRecDepth 100000
open Go.RowKit
def viewB (m:List (List WD)) (l:List Int):Bool:=decide (l.length=m.length∧∀ i,i < l.length→0≤l.getD i 0∧l.getD i 0 < ((m.getD i []).length:Int))
def rowB (m:List (List WD)) (r:List WD):Bool:=decide (1≤r.length∧r.length≤4000)&&r.all (fun x=>viewB m x.vw)
def memB (m:List (List WD)):Bool:=decide (m.length=24)&&m.all (rowB m)
theorem belowQ {B:Nat} {w w':World} (h:Below B w w') (n:Nat):Below B w (w'.drewN n):=⟨h.os,h.tape,h.output,h.size,h.block⟩
theorem isOneOfD_any (n c:Int) (w:World):Calls Try.prog 43 #[.int .i64 n,.int .i64 c] w fun e w'=>e=.returned (.bool (decide (0≤n∧n < c)))∧w'=w:=by
 by_cases h:0≤n
 ·by_cases h2:n < c
  ·rw [decide_eq_true ⟨h,h2⟩]
   go_enter Try.func43,Try.ntmps43
   go_wp2
   go_ret
   exact ⟨by simp,rfl⟩
  ·rw [decide_eq_false (fun e=>h2 e.2)]
   go_enter Try.func43,Try.ntmps43
   go_wp2
   go_ret
   exact ⟨by simp,rfl⟩
 ·rw [decide_eq_false (fun e=>h e.1)]
  go_enter Try.func43,Try.ntmps43
  go_wp2
  go_ret
  exact ⟨by simp,rfl⟩
set_option maxHeartbeats 2000000 in
theorem fits_any (s s' : Option Addr) (c c' lo hi lo' hi' : Nat) (m : List (List WD)) (l : List Int) (w : World) (h : MemR w lo hi s m) (h' : IntsR w lo' hi' s' l) (hB : hi ≤ w.heap.size) (hB' : hi' ≤ w.heap.size) (hl : l.length ≤ 2000000) :
  Calls Try.prog 62 #[.slice s' l.length c',.agg #[.slice s m.length c]] w fun e w'=>e=.returned (.bool (viewB m l))∧Below w.heap.size w w':=by
 have H:Hid (MemR w lo hi s m):=h
 have H':Hid (IntsR w lo' hi' s' l):=h'
 clear h h'
 by_cases hn:l.length=m.length
 ·have hne:((l.length:Int) !=(m.length:Int))=false:=by simp;omega
  have HN:Hid (l.length=m.length):=hn
  clear hn
  go_enter Try.func62,Try.ntmps62
  go_wp2
  obtain ⟨W,hW,bx,kb,zb⟩:=Bo1.new w (.slice s m.length c) 30
  rw [hW]
  clear hW
  have HW:Hid (MemR W lo hi s m):=H.out.keep (Keep.of_below kb hB)
  have HW':Hid (IntsR W lo' hi' s' l):=H'.out.keep (Keep.of_below kb hB')
  have c0:=bx.c0
  have HKB:Hid (Below w.heap.size w W):=kb
  have z0:w.heap.size < W.heap.size:=by omega
  clear bx kb zb
  go_loop [5,6,15] (fun _ _ i=>∃ k:Nat,k≤l.length∧i=.int .i64 k∧∀ j,j < k→0≤l.getD j 0∧l.getD j 0 < ((m.getD j []).length:Int)) (fun _ _ i=>l.length - (intOf i).toNat)
  case atStart=>exact ⟨0,Nat.zero_le _,rfl,fun j hj=>absurd hj (Nat.not_lt_zero _)⟩
  case round=>
   obtain ⟨k,hk,rfl,hj⟩:=hrel
   have HJ:Hid (∀ j,j < k→0≤l.getD j 0∧l.getD j 0 < ((m.getD j []).length:Int)):=hj
   clear hj
   by_cases hlt:k < l.length
   ·have hlt':k < m.length:=by have:=HN.out;omega
    obtain ⟨g',o',e1,a1,a2,a3⟩:=HW'.out.pos (by omega)
    obtain ⟨r,hr⟩:∃ r,m[k]? =some r:=⟨_,List.getElem?_eq_getElem hlt'⟩
    obtain ⟨g,o,s1,c1,e2,q1,q2,q3,-⟩:=HW.out.row hr
    subst e1 e2
    have f1:=a3 k hlt
    have HG:Hid (m.getD k []=r):=by show m.getD k []=r;rw [List.getD_eq_getElem?_getD,hr];rfl
    clear a3 hr
    generalize hx:l.getD k 0=x at f1
    have HX:Hid (l.getD k 0=x):=hx
    clear hx
    generalize hrn:r.length=rn at q3
    have HRN:Hid (r.length=rn):=hrn
    clear hrn
    have b0:(0:Int)≤(k:Int):=by omega
    have b1:(k:Int) < (l.length:Int):=by omega
    have b2:(k:Int) < (m.length:Int):=by omega
    have io:=isOneOfD_any x rn W
    by_cases hxy:0≤x∧x < (rn:Int)
    ·rw [decide_eq_true hxy] at io
     have HXY:Hid (0≤x∧x < (rn:Int)):=hxy
     clear hxy
     go_wp2_with (go_at_call 43;refine io.mono ?_;rintro e w9 ⟨rfl,hw9⟩;subst w9)
     go_round
     case rel=>
      refine ⟨k+1,by omega,by go_num,fun j hj=>?_⟩
      by_cases e:j < k
      ·exact HJ.out j e
      ·have:j=k:=by omega
       subst this
       rw [HX.out,HG.out,HRN.out]
       exact HXY.out
     case measure=>simp [intOf];omega
    ·rw [decide_eq_false hxy] at io
     have HXY:Hid (¬ (0≤x∧x < (rn:Int))):=hxy
     clear hxy
     go_wp2_with (go_at_call 43;refine io.mono ?_;rintro e w9 ⟨rfl,hw9⟩;subst w9)
     go_ret
     refine ⟨ret_bool' ?_,HKB.out⟩
     symm
     refine decide_eq_false (fun h=>HXY.out ?_)
     have:=h.2 k hlt
     rw [HX.out,HG.out,HRN.out] at this
     exact this
   ·go_wp2
    go_ret
    refine ⟨ret_bool' ?_,HKB.out⟩
    symm
    exact decide_eq_true ⟨HN.out,fun j hj=>HJ.out j (by omega)⟩
 ·have hne:((l.length:Int) !=(m.length:Int))=true:=by simp;omega
  have HN:Hid (¬ l.length=m.length):=hn
  clear hn
  go_enter Try.func62,Try.ntmps62
  go_wp2
  go_ret
  refine ⟨ret_bool' ?_,(Below.refl _ _).alloc (Nat.le_refl _) _⟩
  symm
  exact decide_eq_false (fun h=>HN.out h.1)
theorem implViewOk_any (s s' : Option Addr) (c c' lo hi lo' hi' : Nat) (m : List (List WD)) (l : List Int) (w : World) (h : MemR w lo hi s m) (h' : IntsR w lo' hi' s' l) (hB : hi ≤ w.heap.size) (hB' : hi' ≤ w.heap.size) (hl : l.length ≤ 2000000) :
  Calls Try.prog 51 #[.agg #[.slice s m.length c],.slice s' l.length c'] w fun e w'=>e=.returned (.bool (viewB m l))∧Below w.heap.size w w':=by
 have k1:Below w.heap.size w (w.alloc (.cells #[.slice s m.length c] 30)):=(Below.refl _ _).alloc (Nat.le_refl _) _
 have H:=fits_any s s' c c' lo hi lo' hi' m l (w.alloc (.cells #[.slice s m.length c] 30)) (h.keep (Keep.of_below k1 hB)) (h'.keep (Keep.of_below k1 hB')) (by simp;omega) (by simp;omega) hl
 have HK:Hid (Below w.heap.size w (w.alloc (.cells #[.slice s m.length c] 30))):=k1
 clear h h' k1
 go_enter Try.func51,Try.ntmps51
 go_wp2_with (go_at_call 62;refine H.mono ?_;rintro e w1 ⟨rfl,hb1⟩;have HB1:=(show Hid _ from hb1);clear hb1)
 go_ret
 exact ⟨rfl,HK.out.trans (HB1.out.mono (by simp))⟩
set_option maxHeartbeats 2000000 in
theorem specViewOk_any (s s' : Option Addr) (c c' lo hi lo' hi' : Nat) (m : List (List WD)) (l : List Int) (w : World) (h : MemR w lo hi s m) (h' : IntsR w lo' hi' s' l) (hB : hi ≤ w.heap.size) (hB' : hi' ≤ w.heap.size) (hl : l.length ≤ 2000000) (hm : ∀ (i : Nat) (r : List WD), m[i]? = some r → r.length ≤ 2000000) :
  Calls Try.prog 44 #[.agg #[.slice s m.length c],.slice s' l.length c'] w fun e w'=>e=.returned (.bool (viewB m l))∧Below w.heap.size w w':=by
 have H:Hid (MemR w lo hi s m):=h
 have H':Hid (IntsR w lo' hi' s' l):=h'
 have HM:Hid (∀ (i:Nat) (r:List WD),m[i]? =some r→r.length≤2000000):=hm
 clear h h' hm
 by_cases hn:l.length=m.length
 ·have hne:((l.length:Int) !=(m.length:Int))=false:=by simp;omega
  have HN:Hid (l.length=m.length):=hn
  clear hn
  go_enter Try.func44,Try.ntmps44
  go_wp2
  obtain ⟨W,hW,bx,kb,zb⟩:=Bo1.new w (.slice s m.length c) 30
  rw [hW]
  clear hW
  have HW:Hid (MemR W lo hi s m):=H.out.keep (Keep.of_below kb hB)
  have HW':Hid (IntsR W lo' hi' s' l):=H'.out.keep (Keep.of_below kb hB')
  have c0:=bx.c0
  have HKB:Hid (Below w.heap.size w W):=kb
  have z9:hi≤W.heap.size∧hi'≤W.heap.size:=by omega
  obtain ⟨z9,z8⟩:=z9
  have z0:w.heap.size < W.heap.size:=by omega
  clear bx kb zb
  go_loopw [5] (fun i wr=>∃ k:Nat,k≤l.length∧i=.int .i64 k∧(∀ j,j < k→0≤l.getD j 0∧l.getD j 0 < ((m.getD j []).length:Int))∧Below W.heap.size W wr) (fun i _=>l.length - (intOf i).toNat)
  case atStart=>exact ⟨0,Nat.zero_le _,rfl,fun j hj=>absurd hj (Nat.not_lt_zero _),Below.refl _ _⟩
  case round=>
   obtain ⟨k,hk,rfl,hj,hbw⟩:=hrel
   have HBW:Hid (Below W.heap.size W wr):=hbw
   have c1:=(hbw.cell (p:=⟨w.heap.size,0,none⟩) z0).trans c0
   have z1:=hbw.size
   have z2:w.heap.size < wr.heap.size:=by omega
   clear hbw
   have HJ:Hid (∀ j,j < k→0≤l.getD j 0∧l.getD j 0 < ((m.getD j []).length:Int)):=hj
   clear hj
   by_cases hlt:k < l.length
   ·have hlt':k < m.length:=by have:=HN.out;omega
    obtain ⟨g',o',e1,a1,a2,a3⟩:=(HW'.out.keep (Keep.of_below HBW.out (by omega))).pos (by omega)
    obtain ⟨r,hr⟩:∃ r,m[k]? =some r:=⟨_,List.getElem?_eq_getElem hlt'⟩
    obtain ⟨g,o,s1,c2,e2,q1,q2,q3,-⟩:=(HW.out.keep (Keep.of_below HBW.out (by omega))).row hr
    subst e1 e2
    have f1:=a3 k hlt
    have HG:Hid (m.getD k []=r):=by show m.getD k []=r;rw [List.getD_eq_getElem?_getD,hr];rfl
    have hrb:=HM.out k r hr
    clear a3 hr
    generalize hx:l.getD k 0=x at f1
    have HX:Hid (l.getD k 0=x):=hx
    clear hx
    generalize hrn:r.length=rn at q3 hrb
    have HRN:Hid (r.length=rn):=hrn
    clear hrn
    have b0:(0:Int)≤(k:Int):=by omega
    have b1:(k:Int) < (l.length:Int):=by omega
    have b2:(k:Int) < (m.length:Int):=by omega
    have hwp:IntKind.i64.wrap ((rn:Int) - 1)=(rn:Int) - 1:=Go.IntWalk.i64_in _ (by omega)
    by_cases hxy:0≤x∧x≤(rn:Int) - 1
    ·have HXY:Hid (0≤x∧x < (rn:Int)):=⟨hxy.1,by omega⟩
     have HD:Hid (decide ((0:Int)≤x∧x≤IntKind.i64.wrap ((rn:Int) - 1))=true):=by show decide _=true;rw [hwp];exact decide_eq_true hxy
     clear hxy hwp
     go_wp2_with fail
     go_quiet ((go_at_call 21;exact Calls.quiet_of_same (l1InD_is _ _ _ true _ HD.out)))
     go_wp2
     go_roundw
     case rel=>
      refine ⟨k+1,by omega,by go_num,fun j hj=>?_,belowQ HBW.out nq⟩
      by_cases e:j < k
      ·exact HJ.out j e
      ·have:j=k:=by omega
       subst this
       rw [HX.out,HG.out,HRN.out]
       exact HXY.out
     case measure=>simp [intOf];omega
    ·have HXY:Hid (¬ (0≤x∧x < (rn:Int))):=fun h=>hxy ⟨h.1,by omega⟩
     have HD:Hid (decide ((0:Int)≤x∧x≤IntKind.i64.wrap ((rn:Int) - 1))=false):=by show decide _=false;rw [hwp];exact decide_eq_false hxy
     clear hxy hwp
     go_wp2_with fail
     go_quiet ((go_at_call 21;exact Calls.quiet_of_same (l1InD_is _ _ _ false _ HD.out)))
     go_wp2
     go_ret
     refine ⟨ret_bool' ?_,HKB.out.trans ((belowQ HBW.out nq).mono (by omega))⟩
     symm
     refine decide_eq_false (fun h=>HXY.out ?_)
     have:=h.2 k hlt
     rw [HX.out,HG.out,HRN.out] at this
     exact this
   ·go_wp2
    go_ret
    refine ⟨ret_bool' ?_,HKB.out.trans (HBW.out.mono (by omega))⟩
    symm
    exact decide_eq_true ⟨HN.out,fun j hj=>HJ.out j (by omega)⟩
 ·have hne:((l.length:Int) !=(m.length:Int))=true:=by simp;omega
  have HN:Hid (¬ l.length=m.length):=hn
  clear hn
  go_enter Try.func44,Try.ntmps44
  go_wp2
  go_ret
  refine ⟨ret_bool' ?_,(Below.refl _ _).alloc (Nat.le_refl _) _⟩
  symm
  exact decide_eq_false (fun h=>HN.out h.1)
set_option maxHeartbeats 2000000 in
theorem writesOk_any (s s' : Option Addr) (c c' lo hi : Nat) (m : List (List WD)) (l : List WD) (w : World) (h : MemR w lo hi s m) (h' : WsR w lo hi s' l) (hB : hi ≤ w.heap.size) (hl : l.length + szV l ≤ 2000000) :
  Calls Try.prog 41 #[.agg #[.slice s m.length c],.slice s' l.length c'] w fun e w'=>e=.returned (.bool (rowB m l))∧Below w.heap.size w w':=by
 have H:Hid (MemR w lo hi s m):=h
 have H':Hid (WsR w lo hi s' l):=h'
 have HV:Hid (∀ (i:Nat) (x:WD),l[i]? =some x→x.vw.length≤2000000):=fun i x hx=>by have:=szV_at l i x hx;omega
 clear h h'
 by_cases h1:(l.length:Int) < 1
 ·have HR:Hid (rowB m l=false):=by show rowB m l=false;unfold rowB;rw [decide_eq_false (by omega)];rfl
  go_enter Try.func41,Try.ntmps41
  go_wp2
  go_ret
  exact ⟨ret_bool' HR.out.symm,(Below.refl _ _).alloc (Nat.le_refl _) _⟩
 by_cases h2:(l.length:Int) > 4000
 ·have HR:Hid (rowB m l=false):=by show rowB m l=false;unfold rowB;rw [decide_eq_false (by omega)];rfl
  go_enter Try.func41,Try.ntmps41
  go_wp2
  go_ret
  exact ⟨ret_bool' HR.out.symm,(Below.refl _ _).alloc (Nat.le_refl _) _⟩
 have HR:Hid (rowB m l=l.all (fun x=>viewB m x.vw)):=by show rowB m l=_;unfold rowB;rw [decide_eq_true (by omega)];rfl
 go_enter Try.func41,Try.ntmps41
 go_wp2
 obtain ⟨W,hW,bx,kb,zb⟩:=Bo1.new w (.slice s m.length c) 30
 rw [hW]
 clear hW
 have c0:=bx.c0
 have HKB:Hid (Below w.heap.size w W):=kb
 have z0:w.heap.size < W.heap.size:=by omega
 have z9:hi≤W.heap.size:=by omega
 have HW:Hid (MemR W lo hi s m):=H.out.keep (Keep.of_below kb hB)
 have HW':Hid (WsR W lo hi s' l):=H'.out.keep (Keep.of_below kb hB)
 clear bx kb zb
 go_loopw [17] (fun i wr=>∃ k:Nat,k≤l.length∧i=.int .i64 k∧Hid ((l.take k).all (fun x=>viewB m x.vw)=true)∧Below W.heap.size W wr) (fun i _=>l.length - (intOf i).toNat)
 case atStart=>exact ⟨0,Nat.zero_le _,rfl,show _=_ by simp,Below.refl _ _⟩
 case round=>
  obtain ⟨k,hk,rfl,HJ,hbw⟩:=hrel
  have HBW:Hid (Below W.heap.size W wr):=hbw
  have d0:=(hbw.cell (p:=⟨w.heap.size,0,none⟩) z0).trans c0
  have z1:=hbw.size
  have z2:w.heap.size < wr.heap.size:=by omega
  clear hbw
  by_cases hlt:k < l.length
  ·obtain ⟨x,hx⟩:∃ x,l[k]? =some x:=⟨_,List.getElem?_eq_getElem hlt⟩
   obtain ⟨g,o,s1,c1,e1,q1,q2,q3,q4,q5⟩:=(HW'.out.keep (Keep.of_below HBW.out z9)).at hx
   subst e1
   have hv:=HV.out k x hx
   have HI:Hid (IntsR wr lo hi s1 x.vw):=q5
   have HM:Hid (MemR wr lo hi s m):=HW.out.keep (Keep.of_below HBW.out z9)
   have HX:Hid (l[k]? =some x):=hx
   clear q5 hx
   have b0:(0:Int)≤(k:Int):=by omega
   have b1:(k:Int) < (l.length:Int):=by omega
   have zg:g < wr.heap.size:=by omega
   go_wp2_with fail
   have k2:Below wr.heap.size wr (wr.alloc (.cells #[.int .i64 x.v,.slice s1 x.vw.length c1] 81)):=(Below.refl _ _).alloc (Nat.le_refl _) _
   refine (implViewOk_any s s1 c c1 lo hi lo hi m x.vw _ (HM.out.keep (Keep.of_below k2 (by omega))) (HI.out.keep (Keep.of_below k2 (by omega))) (by simp;omega) (by simp;omega) hv).mono ?_
   rintro e w2 ⟨rfl,hb2⟩
   have HB2:Hid (Below W.heap.size W w2):=(HBW.out.trans (k2.mono z1)).trans (hb2.mono (by simp;omega))
   have HT:Hid ((l.take (k+1)).all (fun x=>viewB m x.vw)=((l.take k).all (fun x=>viewB m x.vw)&&viewB m x.vw)):=all_take HX.out
   have HF:Hid (viewB m x.vw=false→l.all (fun x=>viewB m x.vw)=false):=fun h=>all_no HX.out h
   clear hb2 k2
   generalize viewB m x.vw=b at HT HF
   cases b
   ·go_wp2
    go_ret
    exact ⟨ret_bool' (HR.out.trans (by first | exact HF.out rfl | exact HF.out trivial)).symm,HKB.out.trans (HB2.out.mono (by omega))⟩
   ·go_wp2
    go_roundw
    case rel=>exact ⟨k+1,by omega,by go_num,show _=_ by rw [HT.out,HJ.out];rfl,HB2.out⟩
    case measure=>simp [intOf];omega
  ·go_wp2
   go_ret
   have:k=l.length:=by omega
   subst this
   have hj:=HJ.out
   rw [List.take_length] at hj
   exact ⟨ret_bool' (by rw [HR.out,hj]),HKB.out.trans (HBW.out.mono (by omega))⟩
set_option maxHeartbeats 2000000 in
theorem implMemoryOk_any (s : Option Addr) (c lo hi : Nat) (m : List (List WD)) (w : World) (h : MemR w lo hi s m) (hB : hi ≤ w.heap.size) (hl : m.length + szR m ≤ 2000000) :
  Calls Try.prog 24 #[.agg #[.slice s m.length c]] w fun e w'=>e=.returned (.bool (memB m))∧Below w.heap.size w w':=by
 have H:Hid (MemR w lo hi s m):=h
 have HV:Hid (∀ (i:Nat) (x:List WD),m[i]? =some x→x.length+szV x≤2000000):=fun i x hx=>by have:=szR_at m i x hx;omega
 clear h
 by_cases h1:m.length=24
 ·have hne:((m.length:Int) !=24)=false:=by simp;omega
  have HR:Hid (memB m=m.all (rowB m)):=by show memB m=_;unfold memB;rw [decide_eq_true h1];rfl
  have HN:Hid (m.length=24):=h1
  clear h1
  go_enter Try.func24,Try.ntmps24
  go_wp2
  obtain ⟨W,hW,bx,kb,zb⟩:=Bo1.new w (.slice s m.length c) 30
  rw [hW]
  clear hW
  have c0:=bx.c0
  have HKB:Hid (Below w.heap.size w W):=kb
  have z0:w.heap.size < W.heap.size:=by omega
  have z9:hi≤W.heap.size:=by omega
  have HW:Hid (MemR W lo hi s m):=H.out.keep (Keep.of_below kb hB)
  clear bx kb zb
  go_loopw [4,12] (fun _ i wr=>∃ k:Nat,k≤m.length∧i=.int .i64 k∧Hid ((m.take k).all (rowB m)=true)∧Below W.heap.size W wr) (fun _ i _=>m.length - (intOf i).toNat)
  case atStart=>exact ⟨0,Nat.zero_le _,rfl,show _=_ by simp,Below.refl _ _⟩
  case round=>
   obtain ⟨k,hk,rfl,HJ,hbw⟩:=hrel
   have HBW:Hid (Below W.heap.size W wr):=hbw
   have d0:=(hbw.cell (p:=⟨w.heap.size,0,none⟩) z0).trans c0
   have z1:=hbw.size
   have z2:w.heap.size < wr.heap.size:=by omega
   clear hbw
   by_cases hlt:k < m.length
   ·obtain ⟨x,hx⟩:∃ x,m[k]? =some x:=⟨_,List.getElem?_eq_getElem hlt⟩
    obtain ⟨g,o,s1,c1,e1,q1,q2,q3,q5⟩:=(HW.out.keep (Keep.of_below HBW.out z9)).row hx
    subst e1
    have HVx:Hid (x.length+szV x≤2000000):=HV.out k x hx
    have HI:Hid (WsR wr lo hi s1 x):=q5
    have HM:Hid (MemR wr lo hi (some ⟨g,o,none⟩) m):=HW.out.keep (Keep.of_below HBW.out z9)
    have HX:Hid (m[k]? =some x):=hx
    clear q5 hx
    have b0:(0:Int)≤(k:Int):=by omega
    have b1:(k:Int) < (m.length:Int):=by omega
    have zg:g < wr.heap.size:=by omega
    go_wp2_with fail
    refine (writesOk_any (some ⟨g,o,none⟩) s1 c c1 lo hi m x wr HM.out HI.out (by omega) HVx.out).mono ?_
    rintro e w2 ⟨rfl,hb2⟩
    have HB2:Hid (Below W.heap.size W w2):=HBW.out.trans (hb2.mono z1)
    have HT:Hid ((m.take (k+1)).all (rowB m)=((m.take k).all (rowB m)&&rowB m x)):=all_take HX.out
    have HF:Hid (rowB m x=false→m.all (rowB m)=false):=fun h=>all_no HX.out h
    clear hb2
    generalize rowB m x=b at HT HF
    cases b
    ·go_wp2
     go_ret
     exact ⟨ret_bool' (HR.out.trans (by first | exact HF.out rfl | exact HF.out trivial)).symm,HKB.out.trans (HB2.out.mono (by omega))⟩
    ·go_wp2
     go_roundw
     case rel=>exact ⟨k+1,by omega,by go_num,show _=_ by rw [HT.out,HJ.out];rfl,HB2.out⟩
     case measure=>simp [intOf];omega
   ·go_wp2
    go_ret
    have:k=m.length:=by omega
    subst this
    have hj:=HJ.out
    rw [List.take_length] at hj
    exact ⟨ret_bool' (by rw [HR.out,hj]),HKB.out.trans (HBW.out.mono (by omega))⟩
 ·have hne:((m.length:Int) !=24)=true:=by simp;omega
  have HR:Hid (memB m=false):=by show memB m=false;unfold memB;rw [decide_eq_false h1];rfl
  go_enter Try.func24,Try.ntmps24
  go_wp2
  go_ret
  exact ⟨ret_bool' HR.out.symm,(Below.refl _ _).alloc (Nat.le_refl _) _⟩
set_option maxHeartbeats 2000000 in
theorem specMemoryOk_any (s : Option Addr) (c lo hi : Nat) (m : List (List WD)) (w : World) (h : MemR w lo hi s m) (hB : hi ≤ w.heap.size) (hl : m.length + szR m ≤ 2000000) :
  Calls Try.prog 31 #[.agg #[.slice s m.length c]] w fun e w'=>e=.returned (.bool (memB m))∧Below w.heap.size w w':=by
 have H:Hid (MemR w lo hi s m):=h
 have HV:Hid (∀ (i:Nat) (x:List WD),m[i]? =some x→x.length+szV x≤2000000):=fun i x hx=>by have:=szR_at m i x hx;omega
 clear h
 by_cases h1:m.length=24
 ·have hne:((m.length:Int) !=24)=false:=by simp;omega
  have HR:Hid (memB m=m.all (rowB m)):=by show memB m=_;unfold memB;rw [decide_eq_true h1];rfl
  have HN:Hid (m.length=24):=h1
  clear h1
  go_enter Try.func31,Try.ntmps31
  go_wp2
  obtain ⟨W,hW,bx,kb,zb⟩:=Bo1.new w (.slice s m.length c) 30
  rw [hW]
  clear hW
  have c0:=bx.c0
  have HKB:Hid (Below w.heap.size w W):=kb
  have z0:w.heap.size < W.heap.size:=by omega
  have z9:hi≤W.heap.size:=by omega
  have HW:Hid (MemR W lo hi s m):=H.out.keep (Keep.of_below kb hB)
  clear bx kb zb
  go_loopw [3,4] (fun i _ wr=>∃ k:Nat,k≤24∧i=.int .i64 k∧Hid ((m.take k).all (rowB m)=true)∧Below W.heap.size W wr) (fun i _ _=>24 - (intOf i).toNat)
  case atStart=>exact ⟨0,Nat.zero_le _,rfl,show _=_ by simp,Below.refl _ _⟩
  case round=>
   obtain ⟨k,hk,rfl,HJ,hbw⟩:=hrel
   have HBW:Hid (Below W.heap.size W wr):=hbw
   have d0:=(hbw.cell (p:=⟨w.heap.size,0,none⟩) z0).trans c0
   have z1:=hbw.size
   have z2:w.heap.size < wr.heap.size:=by omega
   clear hbw
   by_cases hlt:k < 24
   ·obtain ⟨x,hx⟩:∃ x,m[k]? =some x:=⟨_,List.getElem?_eq_getElem (by have:=HN.out;omega)⟩
    obtain ⟨g,o,s1,c1,e1,q1,q2,q3,q5⟩:=(HW.out.keep (Keep.of_below HBW.out z9)).row hx
    subst e1
    have hvx:=HV.out k x hx
    have HVx:Hid (x.length+szV x≤2000000):=hvx
    have HI:Hid (WsR W lo hi s1 x):=by
     obtain ⟨g2,o2,s2,c2,e2,r1,r2,r3,r5⟩:=HW.out.row hx
     injection e2 with e2;injection e2 with e2 e3 e4
     subst e2 e3
     have r4:=(HBW.out.cell (p:=⟨g,o+k,none⟩) (by show g < _;omega)).trans r3
     rw [q3] at r4
     injection r4 with r4;injection r4 with r4 r6 r7
     rw [r4]
     exact r5
    have HX:Hid (m[k]? =some x):=hx
    have HT:Hid ((m.take (k+1)).all (rowB m)=((m.take k).all (rowB m)&&rowB m x)):=all_take hx
    have HF:Hid (rowB m x=false→m.all (rowB m)=false):=fun h=>all_no HX.out h
    have hxl:x.length≤2000000:=by omega
    clear q5 hx hvx
    have b0:(0:Int)≤(k:Int):=by omega
    have b1:(k:Int) < 24:=by omega
    have b1':(k:Int) < (m.length:Int):=by have:=HN.out;omega
    have zg:g < wr.heap.size:=by omega
    have io:=l1InD_any (x.length:Int) 1 4000 wr
    by_cases hin:(1:Int)≤x.length∧(x.length:Int)≤4000
    ·rw [decide_eq_true hin] at io
     have HRX:Hid (rowB m x=x.all (fun x=>viewB m x.vw)):=by show rowB m x=_;unfold rowB;rw [decide_eq_true (by omega)];rfl
     clear hin
     have HIw:Hid (WsR wr lo hi s1 x):=HI.out.keep (Keep.of_below HBW.out z9)
     have HMw:Hid (MemR wr lo hi (some ⟨g,o,none⟩) m):=HW.out.keep (Keep.of_below HBW.out z9)
     go_wp2_with (go_at_call 21;refine io.mono ?_;rintro e w9 ⟨rfl,hw9⟩;subst w9)
     clear io
     rename World=>wo
     go_loopw [4] (fun i wr=>∃ j:Nat,j≤x.length∧i=.int .i64 j∧Hid ((x.take j).all (fun x=>viewB m x.vw)=true)∧Below wo.heap.size wo wr) (fun i _=>x.length - (intOf i).toNat)
     case atStart=>exact ⟨0,Nat.zero_le _,rfl,show _=_ by simp,Below.refl _ _⟩
     case round=>
      obtain ⟨j,hj,rfl,HJ2,hbo⟩:=hrel
      have HBO:Hid (Below wo.heap.size wo wr):=hbo
      have d1:=(hbo.cell (p:=⟨w.heap.size,0,none⟩) z2).trans d0
      have d2:=(hbo.cell (p:=⟨g,o+k,none⟩) zg).trans q3
      have z3:=hbo.size
      have z4:w.heap.size < wr.heap.size:=by omega
      have z5:g < wr.heap.size:=by omega
      clear hbo
      by_cases hjt:j < x.length
      ·obtain ⟨y,hy⟩:∃ y,x[j]? =some y:=⟨_,List.getElem?_eq_getElem hjt⟩
       obtain ⟨g',o',s2,c2,e2,r1,r2,r3,r4,r5⟩:=(HIw.out.keep (Keep.of_below HBO.out (by omega))).at hy
       subst e2
       have HMr:Hid (MemR wr lo hi (some ⟨g,o,none⟩) m):=HMw.out.keep (Keep.of_below HBO.out (by omega))
       have HIr:Hid (IntsR wr lo hi s2 y.vw):=r5
       have hyl:y.vw.length≤2000000:=by have:=szV_at x j y hy;have:=HVx.out;omega
       have HVr:Hid (∀ (i:Nat) (r:List WD),m[i]? =some r→r.length≤2000000):=fun i r hr=>by have:=HV.out i r hr;omega
       have HT2:Hid ((x.take (j+1)).all (fun x=>viewB m x.vw)=((x.take j).all (fun x=>viewB m x.vw)&&viewB m y.vw)):=all_take hy
       have HF2:Hid (viewB m y.vw=false→x.all (fun x=>viewB m x.vw)=false):=fun h=>all_no hy h
       clear r5 hy r3
       have z6:g' < wr.heap.size:=by omega
       have b2:(0:Int)≤(j:Int):=by omega
       have b3:(j:Int) < (x.length:Int):=by omega
       go_wp2_with fail
       go_region_held3 (fun w'=>w'.cell? ⟨w.heap.size,0,none⟩=some (.slice (some ⟨g,o,none⟩) m.length c)∧w'.cell? ⟨g,o+k,none⟩=some (.slice (some ⟨g',o',none⟩) x.length c1)∧w'.cell? ⟨g',o'+j * 2+1,none⟩=some (.slice s2 y.vw.length c2)) (go_keep) ((go_at_call 44;refine (specViewOk_any (some ⟨g,o,none⟩) s2 c c2 lo hi lo hi m y.vw wr.drew HMr.out HIr.out (by show hi≤wr.heap.size;omega) (by show hi≤wr.heap.size;omega) hyl HVr.out).mono ?_;rintro e w3 ⟨rfl,hb3⟩;have t1:=(hb3.cell (p:=⟨w.heap.size,0,none⟩) (show w.heap.size < wr.heap.size by omega)).trans d1;have t2:=(hb3.cell (p:=⟨g,o+k,none⟩) (show g < wr.heap.size by omega)).trans d2;have t3:=(hb3.cell (p:=⟨g',o'+j * 2+1,none⟩) (show g' < wr.heap.size by omega)).trans r4))
       have HB3:Hid (Below wo.heap.size wo w3):=HBO.out.trans ((show Below wr.heap.size wr w3 from ⟨hb3.os,hb3.tape,hb3.output,hb3.size,hb3.block⟩).mono z3)
       clear hb3 t1 t2 t3
       generalize viewB m y.vw=b at HT2 HF2
       cases b
       ·go_wp2
        go_ret
        exact ⟨ret_bool' (HR.out.trans (HF.out (HRX.out.trans (by first | exact HF2.out rfl | exact HF2.out trivial)))).symm,HKB.out.trans ((HBW.out.trans (HB3.out.mono (by omega))).mono (by omega))⟩
       ·go_wp2
        go_roundw
        case rel=>exact ⟨j+1,by omega,by go_num,show _=_ by rw [HT2.out,HJ2.out];rfl,HB3.out⟩
        case measure=>simp [intOf];omega
      ·go_wp2
       go_roundw
       case rel=>
        have:j=x.length:=by omega
        subst this
        have hj:=HJ2.out
        rw [List.take_length] at hj
        exact ⟨k+1,by omega,by go_num,show _=_ by rw [HT.out,HJ.out,HRX.out,hj];rfl,HBW.out.trans (HBO.out.mono (by omega))⟩
       case measure=>simp [intOf];omega
    ·rw [decide_eq_false hin] at io
     have HRX:Hid (rowB m x=false):=by show rowB m x=_;unfold rowB;rw [decide_eq_false (by omega)];rfl
     clear hin
     go_wp2_with (go_at_call 21;refine io.mono ?_;rintro e w9 ⟨rfl,hw9⟩;subst w9)
     go_ret
     exact ⟨ret_bool' (by rw [HR.out,HF.out HRX.out]),HKB.out.trans (HBW.out.mono (by omega))⟩
   ·go_wp2
    go_ret
    have hj:=HJ.out
    rw [List.take_of_length_le (by have:=HN.out;omega)] at hj
    exact ⟨ret_bool' (by rw [HR.out,hj]),HKB.out.trans (HBW.out.mono (by omega))⟩
 ·have hne:((m.length:Int) !=24)=true:=by simp;omega
  have HR:Hid (memB m=false):=by show memB m=false;unfold memB;rw [decide_eq_false h1];rfl
  go_enter Try.func31,Try.ntmps31
  go_wp2
  go_ret
  exact ⟨ret_bool' HR.out.symm,(Below.refl _ _).alloc (Nat.le_refl _) _⟩
end
section
set_option linter.unusedSimpArgs false
set_option linter.unusedVariables false
set_option maxRecDepth 100000
open Go.RowKit
end
section
set_option linter.unusedSimpArgs false
set_option linter.unusedVariables false
set_option maxRecDepth 100000
open Go.RowKit
def lastV (m:List (List WD)) (k:Nat):Int:=((m.getD k []).getLast?.map WD.v).getD 0
theorem memB_row {m:List (List WD)} (h:memB m=true) {k:Nat} (hk:k < 24):∃ r x,m[k]? =some r∧0 < r.length∧r.length≤4000∧r[r.length - 1]? =some x∧lastV m k=x.v:=by
 unfold memB at h
 rw [Bool.and_eq_true,decide_eq_true_eq,List.all_eq_true] at h
 obtain ⟨r,hr⟩:∃ r,m[k]? =some r:=⟨_,List.getElem?_eq_getElem (by omega)⟩
 have q:=h.2 r (List.mem_of_getElem? hr)
 unfold rowB at q
 rw [Bool.and_eq_true,decide_eq_true_eq] at q
 obtain ⟨x,hx⟩:∃ x,r[r.length - 1]? =some x:=⟨_,List.getElem?_eq_getElem (by omega)⟩
 refine ⟨r,x,hr,by omega,q.1.2,hx,?_⟩
 unfold lastV
 rw [List.getD_eq_getElem?_getD,hr,Option.getD_some,List.getLast?_eq_getElem?,hx]
 rfl
theorem memB_len {m:List (List WD)} (h:memB m=true):m.length=24:=by
 unfold memB at h
 rw [Bool.and_eq_true,decide_eq_true_eq] at h
 exact h.1
theorem lastOf_is (s : Option Addr) (c lo hi : Nat) (m : List (List WD)) (k : Nat) (z : Int) (w : World) (h : MemR w lo hi s m) (hB : hi ≤ w.heap.size) (hm : memB m = true) (hk : k < 24) (hz : z = (k : Int)) :
  Calls Try.prog 27 #[.agg #[.slice s m.length c],.int .i64 z] w fun e w'=>e=.returned (.int .i64 (lastV m k))∧w'=w.alloc (.cells #[.slice s m.length c] 30):=by
 subst hz
 obtain ⟨r,x,hr,h0,h4,hx,hv⟩:=memB_row hm hk
 obtain ⟨g,o,s1,c1,e2,q1,q2,q3,q4⟩:=h.row hr
 obtain ⟨g',o',s2,c2,e3,t1,t2,t3,-⟩:=q4.at hx
 have hl:=memB_len hm
 subst e2 e3
 rw [hv]
 generalize x.v=v at t3
 have n0:((r.length - 1:Nat):Int)=(r.length:Int) - 1:=by omega
 have n1:((r.length:Int) - 1).toNat=r.length - 1:=by omega
 have g1:g < w.heap.size:=by omega
 have g2:g' < w.heap.size:=by omega
 rw [hl]
 clear hr h hx hv hm hl
 generalize r.length=rn at h0 h4 q3 n0 n1 t3
 go_enter Try.func27,Try.ntmps27
 go_wp2
 go_ret
 exact ⟨rfl,rfl⟩
theorem l9Last_is (s : Option Addr) (c lo hi : Nat) (m : List (List WD)) (k : Nat) (z : Int) (w : World) (h : MemR w lo hi s m) (hB : hi ≤ w.heap.size) (hm : memB m = true) (hk : k < 24) (hz : z = (k : Int)) :
  Calls Try.prog 32 #[.agg #[.slice s m.length c],.int .i64 z] w fun e w'=>e=.returned (.int .i64 (lastV m k))∧w'=w.alloc (.cells #[.slice s m.length c] 30):=by
 subst hz
 obtain ⟨r,x,hr,h0,h4,hx,hv⟩:=memB_row hm hk
 obtain ⟨g,o,s1,c1,e2,q1,q2,q3,q4⟩:=h.row hr
 obtain ⟨g',o',s2,c2,e3,t1,t2,t3,-⟩:=q4.at hx
 have hl:=memB_len hm
 subst e2 e3
 rw [hv]
 generalize x.v=v at t3
 have n0:((r.length - 1:Nat):Int)=(r.length:Int) - 1:=by omega
 have n1:((r.length:Int) - 1).toNat=r.length - 1:=by omega
 have g1:g < w.heap.size:=by omega
 have g2:g' < w.heap.size:=by omega
 rw [hl]
 clear hr h hx hv hm hl
 generalize r.length=rn at h0 h4 q3 n0 n1 t3
 go_enter Try.func32,Try.ntmps32
 go_wp2
 go_ret
 exact ⟨rfl,rfl⟩
theorem isFlag_is (v:Int) (w:World):Calls Try.prog 29 #[.int .i64 v] w fun e w'=>e=.returned (.bool (decide (0≤v∧v≤1)))∧w'=w:=by
 by_cases h0:v=0
 ·subst h0
  go_enter Try.func29,Try.ntmps29
  go_wp2
  go_ret
  exact ⟨rfl,rfl⟩
 ·have e0:(v==0)=false:=by simpa using h0
  by_cases h1:v=1
  ·subst h1
   go_enter Try.func29,Try.ntmps29
   go_wp2
   go_ret
   exact ⟨rfl,rfl⟩
  ·have e1:(v==1)=false:=by simpa using h1
   rw [decide_eq_false (by omega)]
   go_enter Try.func29,Try.ntmps29
   go_wp2
   go_ret
   exact ⟨by simp [Array.getD,e1],rfl⟩
end
section
set_option linter.unusedSimpArgs false
set_option linter.unusedVariables false
set_option maxRecDepth 100000
open Go.RowKit
end
section
set_option linter.unusedSimpArgs false
set_option linter.unusedVariables false
set_option maxRecDepth 100000
open Go.RowKit
inductive FS where
 | i
 | r (x:VS) (e:Nat)
inductive FV where
 | i (z:Int)
 | r (l:List Int)
def FS.kind:FS→Option Nat
 | .i=>none
 | .r _ e=>some e
def fAs (a:Addr):FS→List Addr
 | .i=>[a]
 | .r x e=>vAs (x.wide e)
def recAs (s:Option Addr):List FS→Nat→List Addr
 | [],_=>[]
 | f::r,j=>fAs (adr s j) f++recAs s r (j+1)
def gAs (s:Option Addr) (wd:Nat):List (List FS)→Nat→List Addr
 | [],_=>[]
 | f::r,k=>recAs s f (k * wd)++gAs s wd r (k+1)
def FO (w:World) (lo hi:Nat) (a:Addr):FS→FV→Prop
 | .i,.i z=>w.cell? a=some (.int .i64 z)∧w.frozen? a=false∧lo≤a.block∧a.block < hi
 | .r x e,.r l=>w.cell? a=some (.slice x.s x.n x.c)∧(lo≤a.block∧a.block < hi)∧VO w lo hi (x.wide e) l
 | _,_=>False
def FSh (w:World) (lo hi:Nat) (a:Addr):FS→Prop
 | .i=>IntC w lo hi a
 | .r x e=>w.cell? a=some (.slice x.s x.n x.c)∧(lo≤a.block∧a.block < hi)∧(x.n * e=0∨Somewhere x.s)∧∀ b∈vAs (x.wide e),IntC w lo hi b
structure GO (w:World) (lo hi:Nat) (s:Option Addr) (T:List (Option Nat)) (R:List (List FS)) (L:List (List FV)):Prop where
 n:R.length=L.length
 rok:L=[]∨Somewhere s
 t:∀ (k:Nat) (rec:List FS),R[k]? =some rec→rec.map FS.kind=T
 c:∀ (k:Nat) (rec:List FS) (vals:List FV),R[k]? =some rec→L[k]? =some vals→rec.length=vals.length∧∀ (j:Nat) (f:FS) (v:FV),rec[j]? =some f→vals[j]? =some v→FO w lo hi (adr s (k * T.length+j)) f v
 o:∀ rec∈R,∀ x e,FS.r x e∈rec→∀ a∈vAs (x.wide e),∀ g o,s=some ⟨g,o,none⟩→a.block≠g
 d:(gAs s T.length R 0).Nodup
structure GSh (w:World) (lo hi:Nat) (s:Option Addr) (T:List (Option Nat)) (R:List (List FS)):Prop where
 rok:R=[]∨Somewhere s
 t:∀ (k:Nat) (rec:List FS),R[k]? =some rec→rec.map FS.kind=T
 c:∀ (k:Nat) (rec:List FS) (j:Nat) (f:FS),R[k]? =some rec→rec[j]? =some f→FSh w lo hi (adr s (k * T.length+j)) f
 d:(gAs s T.length R 0).Nodup
theorem mem_recAs {s:Option Addr} {a:Addr}:∀ {rec:List FS} {j:Nat},a∈recAs s rec j↔∃ (i:Nat) (f:FS),rec[i]? =some f∧a∈fAs (adr s (j+i)) f
 | [],j=>by simp [recAs]
 | f::r,j=>by
  simp only [recAs,List.mem_append,mem_recAs (rec:=r) (j:=j+1)]
  constructor
  ·rintro (h | ⟨i,f',h,e⟩)
   ·exact ⟨0,f,rfl,h⟩
   ·exact ⟨i+1,f',by simpa using h,by rw [show j+(i+1)=j+1+i by omega];exact e⟩
  ·rintro ⟨i,f',h,e⟩
   rcases Nat.eq_zero_or_pos i with rfl | hp
   ·simp at h
    subst h
    exact .inl e
   ·obtain ⟨m,rfl⟩:∃ m,i=m+1:=⟨i - 1,by omega⟩
    exact .inr ⟨m,f',by simpa using h,by rw [show j+1+m=j+(m+1) by omega];exact e⟩
theorem mem_gAs {s:Option Addr} {wd:Nat} {a:Addr}:∀ {R:List (List FS)} {k:Nat},a∈gAs s wd R k↔∃ (i:Nat) (rec:List FS) (j:Nat) (f:FS),R[i]? =some rec∧rec[j]? =some f∧a∈fAs (adr s ((k+i) * wd+j)) f
 | [],k=>by simp [gAs]
 | r0::r,k=>by
  simp only [gAs,List.mem_append,mem_gAs (R:=r) (k:=k+1),mem_recAs]
  constructor
  ·rintro (⟨j,f,h,e⟩ | ⟨i,rec,j,f,h,h',e⟩)
   ·exact ⟨0,r0,j,f,rfl,h,by simpa using e⟩
   ·exact ⟨i+1,rec,j,f,by simpa using h,h',by rw [show k+(i+1)=k+1+i by omega];exact e⟩
  ·rintro ⟨i,rec,j,f,h,h',e⟩
   rcases Nat.eq_zero_or_pos i with rfl | hp
   ·simp at h
    subst h
    exact .inl ⟨j,f,h',by simpa using e⟩
   ·obtain ⟨m,rfl⟩:∃ m,i=m+1:=⟨i - 1,by omega⟩
    exact .inr ⟨m,rec,j,f,by simpa using h,h',by rw [show k+1+m=k+(m+1) by omega];exact e⟩
theorem gAs_append (s:Option Addr) (wd:Nat) (b:List (List FS)):∀ (a:List (List FS)) (k:Nat),gAs s wd (a++b) k=gAs s wd a k++gAs s wd b (k+a.length)
 | [],k=>by simp [gAs]
 | y::r,k=>by
  have e:k+1+r.length=k+(r.length+1):=by omega
  simp [gAs,gAs_append s wd b r (k+1),e]
theorem FO.keep {w w':World} {lo hi:Nat} {a:Addr} {f:FS} {v:FV} (h:FO w lo hi a f v) (hb:Keep lo hi w w'):FO w' lo hi a f v:=by
 cases f<;>cases v<;>first | exact h | skip
 ·obtain ⟨h1,h2,h3,h4⟩:=h
  exact ⟨(hb.cell h3 h4).trans h1,(hb.frozen h3 h4).trans h2,h3,h4⟩
 ·obtain ⟨h1,⟨h3,h4⟩,h2⟩:=h
  exact ⟨(hb.cell h3 h4).trans h1,⟨h3,h4⟩,h2.keep hb⟩
theorem FO.mono {w:World} {lo hi lo' hi':Nat} {a:Addr} {f:FS} {v:FV} (h:FO w lo hi a f v) (p:lo'≤lo) (q:hi≤hi'):FO w lo' hi' a f v:=by
 cases f<;>cases v<;>first | exact h | skip
 ·obtain ⟨h1,h2,h3,h4⟩:=h
  exact ⟨h1,h2,by omega,by omega⟩
 ·obtain ⟨h1,⟨h3,h4⟩,h2⟩:=h
  exact ⟨h1,⟨by omega,by omega⟩,h2.mono p q⟩
theorem GO.keep {w w':World} {lo hi:Nat} {s:Option Addr} {T:List (Option Nat)} {R:List (List FS)} {L:List (List FV)} (h:GO w lo hi s T R L) (hb:Keep lo hi w w'):GO w' lo hi s T R L:=
 ⟨h.n,h.rok,h.t,fun k rec vals hr hl=>⟨(h.c k rec vals hr hl).1,fun j f v hf hv=>((h.c k rec vals hr hl).2 j f v hf hv).keep hb⟩,h.o,h.d⟩
theorem GO.mono {w:World} {lo hi lo' hi':Nat} {s:Option Addr} {T:List (Option Nat)} {R:List (List FS)} {L:List (List FV)} (h:GO w lo hi s T R L) (p:lo'≤lo) (q:hi≤hi'):GO w lo' hi' s T R L:=
 ⟨h.n,h.rok,h.t,fun k rec vals hr hl=>⟨(h.c k rec vals hr hl).1,fun j f v hf hv=>((h.c k rec vals hr hl).2 j f v hf hv).mono p q⟩,h.o,h.d⟩
theorem GO.nil (w:World) (lo hi:Nat) (s:Option Addr) (T:List (Option Nat)):GO w lo hi s T [] []:=
 ⟨rfl,.inl rfl,fun k rec h=>by simp at h,fun k rec vals h=>by simp at h,fun rec h=>by simp at h,by simp [gAs]⟩
theorem VO.intc {w:World} {lo hi:Nat} {x:VS} {l:List Int} (h:VO w lo hi x l) {a:Addr} (ha:a∈vAs x):IntC w lo hi a:=by
 have hb:=h.blk ha
 obtain ⟨i,hi',rfl⟩:=mem_vAs.1 ha
 rcases h.c with e | ⟨g,o,hs,h1,h2,hc⟩
 ·have:=h.n;rw [e] at this;simp at this;omega
 ·obtain ⟨c1,c2⟩:=hc i (by rw [← h.n];exact hi')
  rw [hs] at hb ⊢
  exact ⟨⟨_,c1⟩,c2,hb.1,hb.2⟩
theorem FO.sh {w:World} {lo hi:Nat} {a:Addr} {f:FS} {v:FV} (h:FO w lo hi a f v):FSh w lo hi a f:=by
 cases f<;>cases v<;>first | exact False.elim h | skip
 ·obtain ⟨h1,h2,h3,h4⟩:=h
  exact ⟨⟨_,h1⟩,h2,h3,h4⟩
 ·obtain ⟨h1,h34,h2⟩:=h
  refine ⟨h1,h34,?_,fun b hb=>h2.intc hb⟩
  rcases h2.c with e | ⟨g,o,hs,-⟩
  ·have:=h2.n;rw [e] at this;exact .inl this
  ·exact .inr ⟨g,o,hs⟩
theorem FSh.int {w:World} {lo hi:Nat} {a b:Addr} {f:FS} (h:FSh w lo hi a f) (hb:b∈fAs a f):IntC w lo hi b:=by
 cases f with
 | i=>simp [fAs] at hb;subst hb;exact h
 | r x e=>exact h.2.2.2 b hb
theorem GSh.int {w:World} {lo hi:Nat} {s:Option Addr} {T:List (Option Nat)} {R:List (List FS)} (h:GSh w lo hi s T R):∀ a∈gAs s T.length R 0,IntC w lo hi a:=fun a ha=>by
 obtain ⟨i,rec,j,f,h1,h2,h3⟩:=mem_gAs.1 ha
 rw [Nat.zero_add] at h3
 exact (h.c i rec j f h1 h2).int h3
theorem GO.sh {w:World} {lo hi:Nat} {s:Option Addr} {T:List (Option Nat)} {R:List (List FS)} {L:List (List FV)} (h:GO w lo hi s T R L):GSh w lo hi s T R:=by
 refine ⟨?_,h.t,fun k rec j f hr hf=>?_,h.d⟩
 ·rcases h.rok with e | e
  ·have:=h.n;rw [e] at this;exact .inl (List.length_eq_zero_iff.1 (by simpa using this))
  ·exact .inr e
 ·obtain ⟨vals,hv⟩:=at_same h.n.symm hr
  obtain ⟨h1,h2⟩:=h.c k rec vals hr hv
  obtain ⟨v,hv'⟩:=at_same h1.symm hf
  exact (h2 j f v hf hv').sh
theorem GO.blk {w:World} {lo hi:Nat} {s:Option Addr} {T:List (Option Nat)} {R:List (List FS)} {L:List (List FV)} (h:GO w lo hi s T R L) {a:Addr} (ha:a∈gAs s T.length R 0):lo≤a.block∧a.block < hi:=by
 obtain ⟨-,-,h3,h4⟩:=h.sh.int a ha
 exact ⟨h3,h4⟩
/- a record put behind a row -/
theorem GO.push {w w2 : World} {lo hi : Nat} {s : Option Addr} {T : List (Option Nat)} {R : List (List FS)} {L : List (List FV)} (rec : List FS) (vals : List FV) (h : GO w lo hi s T R L)
  (hs:Somewhere s) (hk:rec.map FS.kind=T) (hl:rec.length=vals.length)
  (hold:∀ (k:Nat) (r:List FS) (v:List FV) (j:Nat) (f:FS) (y:FV),R[k]? =some r→L[k]? =some v→r[j]? =some f→v[j]? =some y→FO w lo hi (adr s (k * T.length+j)) f y→FO w2 lo hi (adr s (k * T.length+j)) f y)
  (hnew:∀ (j:Nat) (f:FS) (v:FV),rec[j]? =some f→vals[j]? =some v→FO w2 lo hi (adr s (L.length * T.length+j)) f v)
  (ho:∀ x e,FS.r x e∈rec→∀ a∈vAs (x.wide e),∀ g o,s=some ⟨g,o,none⟩→a.block≠g)
  (hn:(recAs s rec (L.length * T.length)).Nodup) (hd:∀ a∈gAs s T.length R 0,a∉recAs s rec (L.length * T.length)):GO w2 lo hi s T (R++[rec]) (L++[vals]):=by
 have hlen:=h.n
 have ga:gAs s T.length (R++[rec]) 0=gAs s T.length R 0++recAs s rec (L.length * T.length):=by rw [gAs_append,hlen,Nat.zero_add];simp [gAs]
 refine ⟨by simp [hlen],.inr hs,fun k r hr=>?_,fun k r v hr hv=>?_,fun r hr=>?_,?_⟩
 ·rcases getElem?_push hr with hr | ⟨-,rfl⟩
  ·exact h.t k r hr
  ·exact hk
 ·rcases getElem?_push hr with hr | ⟨e1,rfl⟩
  ·rcases getElem?_push hv with hv | ⟨e2,rfl⟩
   ·refine ⟨(h.c k r v hr hv).1,fun j f y hf hy=>?_⟩
    exact hold k r v j f y hr hv hf hy ((h.c k r v hr hv).2 j f y hf hy)
   ·have:=(List.getElem?_eq_some_iff.1 hr).1
    omega
  ·rcases getElem?_push hv with hv | ⟨e2,rfl⟩
   ·have:=(List.getElem?_eq_some_iff.1 hv).1
    omega
   ·refine ⟨hl,fun j f y hf hy=>?_⟩
    rw [e2]
    exact hnew j f y hf hy
 ·rcases List.mem_append.1 hr with hr | hr
  ·exact h.o r hr
  ·simp at hr
   subst hr
   exact ho
 ·rw [ga]
  refine List.nodup_append.2 ⟨h.d,hn,fun a ha b hb e=>?_⟩
  subst e
  exact hd a ha hb
end
section
set_option linter.unusedSimpArgs false
set_option linter.unusedVariables false
set_option maxRecDepth 100000
open Go.RowKit
end
section
set_option linter.unusedSimpArgs false
set_option linter.unusedVariables false
set_option maxRecDepth 100000
open Go.RowKit
structure ND where
 who:Int
 v:Int
def NtR (w:World) (g off:Nat) (n:ND):Prop:=w.cell? ⟨g,off,none⟩=some (.int .i64 n.who)∧w.cell? ⟨g,off+1,none⟩=some (.int .i64 n.v)
def NtsR (w:World) (lo hi:Nat) (s:Option Addr) (l:List ND):Prop:=
 l=[]∨∃ g off,s=some ⟨g,off,none⟩∧lo≤g∧g < hi∧∀ (i:Nat) (n:ND),l[i]? =some n→NtR w g (off+i * 2) n
theorem NtsR.keep {w w':World} {lo hi:Nat} {s:Option Addr} {l:List ND} (h:NtsR w lo hi s l) (hb:Keep lo hi w w'):NtsR w' lo hi s l:=by
 rcases h with h | ⟨g,o,hs,h1,h2,hc⟩
 ·exact .inl h
 ·exact .inr ⟨g,o,hs,h1,h2,fun i r hi=>⟨(hb.cell h1 h2).trans (hc i r hi).1,(hb.cell h1 h2).trans (hc i r hi).2⟩⟩
theorem NtsR.mono {w:World} {lo hi lo' hi':Nat} {s:Option Addr} {l:List ND} (h:NtsR w lo hi s l) (h1:lo'≤lo) (h2:hi≤hi'):NtsR w lo' hi' s l:=by
 rcases h with h | ⟨g,o,hs,a,b,hc⟩
 ·exact .inl h
 ·exact .inr ⟨g,o,hs,by omega,by omega,hc⟩
def flatN:List ND→List Value
 | []=>[]
 | x::t=>[.int .i64 x.who,.int .i64 x.v]++flatN t
theorem flatN_app:∀ (a b:List ND),flatN (a++b)=flatN a++flatN b
 | [],b=>rfl
 | x::r,b=>by simp [flatN,flatN_app r b]
theorem flatN_at:∀ (L:List ND) (i:Nat) (x:ND),L[i]? =some x→(flatN L)[i * 2]? =some (.int .i64 x.who)∧(flatN L)[i * 2+1]? =some (.int .i64 x.v)
 | [],i,x,h=>by simp at h
 | y::r,0,x,h=>by
  simp at h
  subst h
  exact ⟨rfl,rfl⟩
 | y::r,i+1,x,h=>by
  have h':r[i]? =some x:=by simpa using h
  have e:=flatN_at r i x h'
  have e0:(i+1) * 2=i * 2+2:=by omega
  rw [e0]
  exact e
def OwnD (w:World) (base:Nat) (v:Value) (l:List ND):Prop:=w.ownsRow base 112 2 v l.length (flatN l)
end
end Go.Proofs.Ytkhjhibigldcgaa
