/- laws.toStep hands its Step on, field by field, in new memory. No condition. Lists of integers as they lie in memory, and what the laws' small functions make of them. Conditions: the lists are of at most a thousand million numbers. Lists of integers as they lie in memory between two blocks, and how the laws copy and count them. Conditions: at most 1048576 integers where they are copied. Lists of steps as they lie in memory, and how the laws copy them. Conditions: lists of at most 1048576 steps. Rows of numbers that a call has made: how they lie, what keeps them, and append of one number, and of three noughts. Conditions: fewer than 2^40 numbers. Rows of integers that a call has made: kept, copied, written over, looked at again; boxes; what a call that writes over a row leaves. Conditions: at most 2^20 + 1 integers. Memories as they lie: cells, each a row of writes, each write with its view; read, and owned with the places of their integers. No condition. How the laws copy memories into new memory. Conditions: they are counted. -/
import Derived.Test.YtlbeploopclegaaGreatQG00
import Derived.Test.YtlbeploopclegaaGreatQC7Leaf
import Derived.Test.YtlbeploopclegaaGreatChecked
import Derived.WalkKit
import Derived.KernelRfl
import Derived.WalkSpells
import Derived.WalkLawsBesides
import Derived.Deep.QuietTactic
import Derived.BigQuiet
import Derived.Laws.MakeOwn
import Derived.Below
import Derived.Laws.OwnMore
import Derived.Deep.AppendLies
namespace Go.Proofs.YtlbeploopclegaaGreat
section
set_option linter.unusedSimpArgs false
set_option linter.unusedVariables false
set_option maxRecDepth 100000
open Go.RowKit
end
section
set_option linter.unusedSimpArgs false
set_option linter.unusedVariables false
set_option maxRecDepth 100000
open Go.RowKit
def Ints (w:World) (s:Option Addr) (l:List Int):Prop:=
 l=[]∨∃ g o,s=some ⟨g,o,none⟩∧g < w.heap.size∧∀ i,i < l.length→w.cell? ⟨g,o+i,none⟩=some (.int .i64 (l.getD i 0))
theorem ret_bool' {x y:Bool} (h:x=y):Ending.returned (.bool x)=Ending.returned (.bool y):=by rw [h]
theorem getD_eq_all (l l':List Int) (h:l.length=l'.length) (hj:∀ j,j < l.length→l.getD j 0=l'.getD j 0):l=l':=by
 apply List.ext_getElem h
 intro i h1 h2
 have:=hj i h1
 simpa [List.getD_eq_getElem?_getD,h1,h2] using this
end
section
set_option linter.unusedSimpArgs false
set_option linter.unusedVariables false
set_option maxRecDepth 100000
open Go.RowKit
theorem setC_at {w:World} {g i:Nat} {v:Value} (h:(w.cell? ⟨g,i,none⟩).isSome=true):(w.setCell ⟨g,i,none⟩ v).cell? ⟨g,i,none⟩=some v:=World.cell?_setCell_same' w _ v h
theorem setC_off {w:World} {g i j:Nat} {v:Value} (h:i≠j):(w.setCell ⟨g,i,none⟩ v).cell? ⟨g,j,none⟩=w.cell? ⟨g,j,none⟩:=by
 apply World.cell?_setCell_other
 intro e
 injection e with e1 e2
 exact h e2
def Keep (lo hi:Nat) (w w':World):Prop:=∀ k,lo≤k→k < hi→w'.heap[k]? =w.heap[k]?
theorem Keep.of_below {lo hi B:Nat} {w w':World} (hb:Below B w w') (h:hi≤B):Keep lo hi w w':=fun k _ hk=>hb.block k (by omega)
theorem Keep.cell {lo hi:Nat} {w w':World} (h:Keep lo hi w w') {p:Addr} (h1:lo≤p.block) (h2:p.block < hi):w'.cell? p=w.cell? p:=World.cell?_of_block (w:=w) (h p.block h1 h2)
def IntsR (w:World) (lo hi:Nat) (s:Option Addr) (l:List Int):Prop:=
 l=[]∨∃ g off,s=some ⟨g,off,none⟩∧lo≤g∧g < hi∧∀ i,i < l.length→w.cell? ⟨g,off+i,none⟩=some (.int .i64 (l.getD i 0))
theorem IntsR.keep {w w':World} {lo hi:Nat} {s:Option Addr} {l:List Int} (h:IntsR w lo hi s l) (hb:Keep lo hi w w'):IntsR w' lo hi s l:=by
 rcases h with h | ⟨g,o,hs,h1,h2,hc⟩
 ·exact .inl h
 ·exact .inr ⟨g,o,hs,h1,h2,fun i hi=>(hb.cell h1 h2).trans (hc i hi)⟩
theorem IntsR.mono {w:World} {lo hi lo' hi':Nat} {s:Option Addr} {l:List Int} (h:IntsR w lo hi s l) (h1:lo'≤lo) (h2:hi≤hi'):IntsR w lo' hi' s l:=by
 rcases h with h | ⟨g,o,hs,a,b,hc⟩
 ·exact .inl h
 ·exact .inr ⟨g,o,hs,by omega,by omega,hc⟩
theorem mkInt (n:Nat) (hn:n≤1048576) (w:World):(Instr.makeSlice 51 (.int .i64 (n:Int)) (.int .i64 (n:Int))).run Tryz.prog w=.ok (.slice (some ⟨w.heap.size,0,none⟩) n n) (w.alloc (.cells (madeCells #[.int .i64 0] (n * 1)) 3)):=by
 have h:=run_make (P:=Tryz.prog) w 51 3 _ (.int .i64 0) Tryz.underlying51 rfl rfl .i64 .i64 n n (by omega) (Int.le_refl _) (by show (8:Int) * _≤_;omega) (by omega)
 have e:(Value.int .i64 0).cells=#[.int .i64 0]:=rfl
 have e':∀ t,Tryz.prog.info? 3=some t→t.size=1:=by intro t h;cases h;rfl
 rw [e,e' _ rfl] at h
 simpa using h
theorem setC_blk {w:World} {g g' i j:Nat} {v:Value} (h:g≠g'):(w.setCell ⟨g,i,none⟩ v).cell? ⟨g',j,none⟩=w.cell? ⟨g',j,none⟩:=by
 apply World.cell?_setCell_other
 intro e
 injection e with e1 e2
 exact h e1
end
section
set_option linter.unusedSimpArgs false
set_option linter.unusedVariables false
set_option maxRecDepth 100000
open Go.RowKit
structure I5 where
 o:Int
 r:Int
 a:Int
 b:Int
 n:Int
def z5:I5:=⟨0,0,0,0,0⟩
def At5 (w:World) (g off:Nat) (x:I5):Prop:=
 w.cell? ⟨g,off,none⟩=some (.int .i64 x.o)∧w.cell? ⟨g,off+1,none⟩=some (.int .i64 x.r)∧w.cell? ⟨g,off+2,none⟩=some (.int .i64 x.a)∧w.cell? ⟨g,off+3,none⟩=some (.int .i64 x.b)∧w.cell? ⟨g,off+4,none⟩=some (.int .i64 x.n)
theorem At5.keep {w w':World} {B g off:Nat} {x:I5} (h:At5 w g off x) (hb:Below B w w') (hg:g < B):At5 w' g off x:=
 ⟨(hb.cell hg).trans h.1,(hb.cell hg).trans h.2.1,(hb.cell hg).trans h.2.2.1,(hb.cell hg).trans h.2.2.2.1,(hb.cell hg).trans h.2.2.2.2⟩
/- a list of steps below block B -/
def InsB (w:World) (B:Nat) (s:Option Addr) (l:List I5):Prop:=
 l=[]∨∃ g off,s=some ⟨g,off,none⟩∧g < B∧∀ i,i < l.length→At5 w g (off+i * 5) (l.getD i z5)
theorem InsB.mono {w:World} {B B':Nat} {s:Option Addr} {l:List I5} (h:InsB w B s l) (hB:B≤B'):InsB w B' s l:=by
 rcases h with h | ⟨g,o,hs,hg,hc⟩
 ·exact .inl h
 ·exact .inr ⟨g,o,hs,by omega,hc⟩
end
section
set_option linter.unusedSimpArgs false
set_option linter.unusedVariables false
set_option maxRecDepth 100000
open Go.RowKit
def OwnN (w:World) (base:Nat) (v:Value) (ls:List Int):Prop:=w.ownsRow base 3 1 v ls.length (ls.map (Value.int .i64))
theorem infoInt:∃ i,Tryz.prog.info? 3=some i∧i.zero=some (.int .i64 0)∧i.size=1∧i.bytes=8:=⟨_,rfl,rfl,rfl,rfl⟩
theorem ownN_empty {w:World} {base:Nat} (hb:base≤w.heap.size):OwnN (w.alloc (.cells #[] 3)) base (.slice (some ⟨w.heap.size,0,none⟩) 0 0) []:=
 World.ownsRow_lit w #[] 0 hb (by unfold maxLen;omega) rfl
theorem OwnN.keep {w w':World} {base:Nat} {v:Value} {ls:List Int} (h:OwnN w base v ls) (hb:∀ k,base≤k→k < w.heap.size→w'.heap[k]? =w.heap[k]?):OwnN w' base v ls:=by
 obtain ⟨h1,h2⟩:=h
 refine ⟨h1,?_⟩
 rcases h2 with h2 | ⟨g,cap,cur,a,b,c,d⟩
 ·exact .inl h2
 ·have hlt:g < w.heap.size:=(Array.getElem?_eq_some_iff.1 c).1
  exact .inr ⟨g,cap,cur,a,b,(hb g b hlt).trans c,d⟩
theorem OwnN.below {w w':World} {base:Nat} {v:Value} {ls:List Int} (h:OwnN w base v ls) (hb:Below w.heap.size w w'):OwnN w' base v ls:=h.keep fun k _ hk=>hb.block k hk
theorem OwnN.alloc {w:World} {base:Nat} {v:Value} {ls:List Int} (h:OwnN w base v ls) (o:Obj):OwnN (w.alloc o) base v ls:=h.keep fun k _ hk=>Below.heap_alloc _ _ _ hk
theorem OwnN.cell {w:World} {base g cap:Nat} {ls:List Int} (h:OwnN w base (.slice (some ⟨g,0,none⟩) ls.length cap) ls) {i:Nat} (hi:i < ls.length):w.cell? ⟨g,i,none⟩=some (.int .i64 (ls.getD i 0)):=by
 rw [World.ownsRow.cellAt h i (by omega)]
 simp [List.getD_eq_getElem?_getD,List.getElem?_eq_getElem hi]
theorem OwnN.sl {w:World} {base:Nat} {v:Value} {ls:List Int} (h:OwnN w base v ls):∃ s cap,v=.slice s ls.length cap:=by
 rcases h.2 with ⟨h1,h2⟩ | ⟨g,cap,cur,a,-⟩
 ·exact ⟨none,0,by rw [h1,h2]⟩
 ·exact ⟨_,_,a⟩
theorem newN1 (w:World) (u:Value):∀ j v,[u][j]? =some v→(w.alloc (.cells #[u] 3)).cell? (Addr.add ⟨w.heap.size,0,none⟩ j)=some v:=by
 intro j v h
 match j,h with
 | 0,h=>simpa [Addr.add,go_sem] using h
 | j+1,h=>simp at h
end
section
set_option linter.unusedSimpArgs false
set_option linter.unusedVariables false
set_option maxRecDepth 100000
open Go.RowKit
theorem ownKeep' {w w':World} {base:Nat} {e:TypeId} {size n:Nat} {v:Value} {xs:List Value} (h:w.ownsRow base e size v n xs) (hb:∀ k,v.ownBlock=some k→w'.heap[k]? =w.heap[k]?):w'.ownsRow base e size v n xs:=by
 obtain ⟨h1,h2⟩:=h
 refine ⟨h1,?_⟩
 rcases h2 with h2 | ⟨g,cap,cur,rfl,b0,c,d⟩
 ·exact .inl h2
 ·exact .inr ⟨g,cap,cur,rfl,b0,(hb g rfl).trans c,d⟩
theorem ownLow' {w:World} {b b':Nat} {e:TypeId} {size n:Nat} {v:Value} {xs:List Value} (h:w.ownsRow b e size v n xs) (hb:b'≤b):w.ownsRow b' e size v n xs:=by
 obtain ⟨h1,h2⟩:=h
 refine ⟨h1,?_⟩
 rcases h2 with h2 | ⟨g,cap,cur,a,b0,c,d⟩
 ·exact .inl h2
 ·exact .inr ⟨g,cap,cur,a,Nat.le_trans hb b0,c,d⟩
theorem ownType' {w:World} {base base':Nat} {e e':TypeId} {size size' n n':Nat} {v v':Value} {xs xs':List Value} (h:w.ownsRow base e size v n xs) (h':w.ownsRow base' e' size' v' n' xs') (hne:e≠e') {k:Nat} (hk:v.ownBlock=some k):v'.ownBlock≠some k:=by
 intro hk'
 rcases h.2 with ⟨rfl,-⟩ | ⟨g,cap,cur,rfl,-,c,-⟩
 ·cases hk
 rcases h'.2 with ⟨rfl,-⟩ | ⟨g',cap',cur',rfl,-,c',-⟩
 ·cases hk'
 ·simp only [Value.ownBlock,Option.some.injEq] at hk hk'
  subst hk
  subst hk'
  rw [c] at c'
  injection c' with c'
  injection c' with c1 c2
  exact hne c2
theorem ownSl {w:World} {base:Nat} {e:TypeId} {size n:Nat} {v:Value} {xs:List Value} (h:w.ownsRow base e size v n xs):∃ s c,v=.slice s n c:=by
 rcases h.2 with ⟨h1,h2⟩ | ⟨g,cap,cur,a,-⟩
 ·exact ⟨none,0,by rw [h1,h2]⟩
 ·exact ⟨_,_,a⟩
theorem ownN_ints {w:World} {base:Nat} {v:Value} {l:List Int} (h:OwnN w base v l):∃ s c,v=.slice s l.length c∧IntsR w base w.heap.size s l:=by
 rcases Nat.eq_zero_or_pos l.length with h0 | hpos
 ·obtain ⟨s,c,e⟩:=ownSl h
  exact ⟨s,c,e,.inl (List.length_eq_zero_iff.1 h0)⟩
 ·obtain ⟨g,cap,rfl,-⟩:=World.ownsRow.form h hpos
  have hlt:=World.ownsRow.lt h g rfl
  refine ⟨_,_,rfl,.inr ⟨g,0,rfl,hlt.1,hlt.2,fun i hi=>?_⟩⟩
  rw [Nat.zero_add,World.ownsRow.cellAt h i (by omega),List.getElem?_map,List.getD_eq_getElem?_getD,List.getElem?_eq_getElem hi]
  rfl
theorem setApp {α:Type} (b:List α) (i:Nat) (x:α):∀ a:List α,(a++b).set (a.length+i) x=a++b.set i x
 | []=>by simp
 | y::r=>by
  have e:(y::r).length+i=(r.length+i)+1:=by simp;omega
  rw [e]
  simp [setApp b i x r]
/- blocks below hi and not from lo on are as they were -/
structure Exc (lo hi:Nat) (w w':World):Prop where
 os:w'.os=w.os
 tape:w'.tape=w.tape
 out:w'.output=w.output
 size:w.heap.size≤w'.heap.size
 blk:∀ k,k < w.heap.size→(k < lo∨hi≤k)→w'.heap[k]? =w.heap[k]?
theorem Exc.below {lo hi B:Nat} {w w':World} (h:Exc lo hi w w') (h1:B≤lo) (h2:B≤w.heap.size):Below B w w':=⟨h.os,h.tape,h.out,h.size,fun k hk=>h.blk k (by omega) (.inl (by omega))⟩
theorem ownN_intsR {w:World} {base g c:Nat} {l:List Int} (h:OwnN w base (.slice (some ⟨g,0,none⟩) l.length c) l):IntsR w base w.heap.size (some ⟨g,0,none⟩) l:=by
 obtain ⟨s,c',e,hi⟩:=ownN_ints h
 injection e with e1 e2 e3
 rw [e1]
 exact hi
theorem below_drewN (w:World) (n:Nat):Below w.heap.size w (w.drewN n):=⟨rfl,rfl,rfl,Nat.le_refl _,fun _ _=>rfl⟩
structure Bo1 (G:Nat) (W:World) (a:Value):Prop where
 c0:W.cell? ⟨G,0,none⟩=some a
theorem Bo1.new (w:World) (a:Value) (T:TypeId):∃ W,w.alloc (.cells #[a] T)=W∧Bo1 w.heap.size W a∧Below w.heap.size w W∧W.heap.size=w.heap.size+1:=
 ⟨_,rfl,⟨by simp [go_sem]⟩,(Below.refl _ _).alloc (Nat.le_refl _) _,by simp⟩
end
section
set_option linter.unusedSimpArgs false
set_option linter.unusedVariables false
set_option maxRecDepth 100000
open Go.RowKit
structure WD where
 v:Int
 vw:List Int
def WR (w:World) (lo hi g off:Nat) (x:WD):Prop:=
 ∃ s c,w.cell? ⟨g,off,none⟩=some (.int .i64 x.v)∧w.cell? ⟨g,off+1,none⟩=some (.slice s x.vw.length c)∧IntsR w lo hi s x.vw
def WsR (w:World) (lo hi:Nat) (s:Option Addr) (l:List WD):Prop:=
 l=[]∨∃ g off,s=some ⟨g,off,none⟩∧lo≤g∧g < hi∧∀ (i:Nat) (x:WD),l[i]? =some x→WR w lo hi g (off+i * 2) x
def RwR (w:World) (lo hi g off:Nat) (l:List WD):Prop:=∃ s c,w.cell? ⟨g,off,none⟩=some (.slice s l.length c)∧WsR w lo hi s l
def MemR (w:World) (lo hi:Nat) (s:Option Addr) (m:List (List WD)):Prop:=
 m=[]∨∃ g off,s=some ⟨g,off,none⟩∧lo≤g∧g < hi∧∀ (i:Nat) (l:List WD),m[i]? =some l→RwR w lo hi g (off+i) l
theorem WR.keep {w w':World} {lo hi g off:Nat} {x:WD} (h:WR w lo hi g off x) (hb:Keep lo hi w w') (hc:∀ j,w'.cell? ⟨g,j,none⟩=w.cell? ⟨g,j,none⟩):WR w' lo hi g off x:=by
 obtain ⟨s,c,h1,h2,h3⟩:=h
 exact ⟨s,c,(hc _).trans h1,(hc _).trans h2,h3.keep hb⟩
theorem WsR.keep {w w':World} {lo hi:Nat} {s:Option Addr} {l:List WD} (h:WsR w lo hi s l) (hb:Keep lo hi w w'):WsR w' lo hi s l:=by
 rcases h with h | ⟨g,o,hs,h1,h2,hc⟩
 ·exact .inl h
 ·exact .inr ⟨g,o,hs,h1,h2,fun i r hi=>(hc i r hi).keep hb (fun j=>hb.cell h1 h2)⟩
theorem RwR.keep {w w':World} {lo hi g off:Nat} {l:List WD} (h:RwR w lo hi g off l) (hb:Keep lo hi w w') (hc:∀ j,w'.cell? ⟨g,j,none⟩=w.cell? ⟨g,j,none⟩):RwR w' lo hi g off l:=by
 obtain ⟨s,c,h1,h2⟩:=h
 exact ⟨s,c,(hc _).trans h1,h2.keep hb⟩
theorem MemR.keep {w w':World} {lo hi:Nat} {s:Option Addr} {m:List (List WD)} (h:MemR w lo hi s m) (hb:Keep lo hi w w'):MemR w' lo hi s m:=by
 rcases h with h | ⟨g,o,hs,h1,h2,hc⟩
 ·exact .inl h
 ·exact .inr ⟨g,o,hs,h1,h2,fun i r hi=>(hc i r hi).keep hb (fun j=>hb.cell h1 h2)⟩
theorem WR.mono {w:World} {lo hi lo' hi' g off:Nat} {x:WD} (h:WR w lo hi g off x) (h1:lo'≤lo) (h2:hi≤hi'):WR w lo' hi' g off x:=by
 obtain ⟨s,c,a,b,d⟩:=h
 exact ⟨s,c,a,b,d.mono h1 h2⟩
theorem WsR.mono {w:World} {lo hi lo' hi':Nat} {s:Option Addr} {l:List WD} (h:WsR w lo hi s l) (h1:lo'≤lo) (h2:hi≤hi'):WsR w lo' hi' s l:=by
 rcases h with h | ⟨g,o,hs,a,b,hc⟩
 ·exact .inl h
 ·exact .inr ⟨g,o,hs,by omega,by omega,fun i r hi=>(hc i r hi).mono h1 h2⟩
theorem MemR.mono {w:World} {lo hi lo' hi':Nat} {s:Option Addr} {m:List (List WD)} (h:MemR w lo hi s m) (h1:lo'≤lo) (h2:hi≤hi'):MemR w lo' hi' s m:=by
 rcases h with h | ⟨g,o,hs,a,b,hc⟩
 ·exact .inl h
 ·exact .inr ⟨g,o,hs,by omega,by omega,fun i r hi=>by obtain ⟨s',c',e1,e2⟩:=hc i r hi;exact ⟨s',c',e1,e2.mono h1 h2⟩⟩
theorem MemR.row {w:World} {lo hi:Nat} {s:Option Addr} {m:List (List WD)} (h:MemR w lo hi s m) {i:Nat} {l:List WD} (hi':m[i]? =some l):∃ g off s' c',s=some ⟨g,off,none⟩∧lo≤g∧g < hi∧w.cell? ⟨g,off+i,none⟩=some (.slice s' l.length c')∧WsR w lo hi s' l:=by
 rcases h with rfl | ⟨g,o,hs,a,b,hc⟩
 ·simp at hi'
 ·obtain ⟨s',c',e1,e2⟩:=hc i l hi'
  exact ⟨g,o,s',c',hs,a,b,e1,e2⟩
theorem WsR.at {w:World} {lo hi:Nat} {s:Option Addr} {l:List WD} (h:WsR w lo hi s l) {i:Nat} {x:WD} (hi':l[i]? =some x):∃ g off s' c',s=some ⟨g,off,none⟩∧lo≤g∧g < hi∧w.cell? ⟨g,off+i * 2,none⟩=some (.int .i64 x.v)∧w.cell? ⟨g,off+i * 2+1,none⟩=some (.slice s' x.vw.length c')∧IntsR w lo hi s' x.vw:=by
 rcases h with rfl | ⟨g,o,hs,a,b,hc⟩
 ·simp at hi'
 ·obtain ⟨s',c',e1,e2,e3⟩:=hc i x hi'
  exact ⟨g,o,s',c',hs,a,b,e1,e2,e3⟩
def szV:List WD→Nat
 | []=>0
 | x::r=>x.vw.length+szV r
def szR:List (List WD)→Nat
 | []=>0
 | l::r=>l.length+szV l+szR r
def MFits (m:List (List WD)):Prop:=m.length+szR m≤1048576
theorem szV_take:∀ (l:List WD) (k:Nat) (x:WD),l[k]? =some x→szV (l.take (k+1))=szV (l.take k)+x.vw.length
 | [],k,x,h=>by simp at h
 | y::r,0,x,h=>by simp at h;subst h;simp [szV]
 | y::r,k+1,x,h=>by
  have:=szV_take r k x (by simpa using h)
  simp [szV,this]
  omega
theorem szR_take:∀ (m:List (List WD)) (k:Nat) (l:List WD),m[k]? =some l→szR (m.take (k+1))=szR (m.take k)+(l.length+szV l)
 | [],k,x,h=>by simp at h
 | y::r,0,x,h=>by simp at h;subst h;simp [szR]
 | y::r,k+1,x,h=>by
  have:=szR_take r k x (by simpa using h)
  simp [szR,this]
  omega
theorem szV_at:∀ (l:List WD) (k:Nat) (x:WD),l[k]? =some x→x.vw.length≤szV l
 | [],k,x,h=>by simp at h
 | y::r,0,x,h=>by simp at h;subst h;simp [szV]
 | y::r,k+1,x,h=>by
  have:=szV_at r k x (by simpa using h)
  simp [szV]
  omega
theorem szR_at:∀ (m:List (List WD)) (k:Nat) (l:List WD),m[k]? =some l→l.length+szV l≤szR m
 | [],k,x,h=>by simp at h
 | y::r,0,x,h=>by simp at h;subst h;simp [szR]
 | y::r,k+1,x,h=>by
  have:=szR_at r k x (by simpa using h)
  simp [szR]
  omega
theorem MFits.n {m:List (List WD)} (h:MFits m):m.length≤1048576:=by unfold MFits at h;omega
theorem MFits.r {m:List (List WD)} (h:MFits m) {i:Nat} {l:List WD} (hi:m[i]? =some l):l.length+szV l≤1048576:=by have:=szR_at m i l hi;unfold MFits at h;omega
/- the places of a memory's integers, in the order in which they are written over -/
structure VS where
 s:Option Addr
 n:Nat
 c:Nat
structure RS where
 s:Option Addr
 c:Nat
 vs:List VS
def adr:Option Addr→Nat→Addr
 | some a,i=>⟨a.block,a.off+i,none⟩
 | none,_=>⟨0,0,none⟩
def vAs (x:VS):List Addr:=(List.range x.n).map (adr x.s)
def rAs (s:Option Addr):List VS→Nat→List Addr
 | [],_=>[]
 | x::r,k=>adr s (k * 2)::(vAs x++rAs s r (k+1))
def mAs:List RS→List Addr
 | []=>[]
 | r::t=>rAs r.s r.vs 0++mAs t
theorem rAs_app (s:Option Addr) (x:VS):∀ (vs:List VS) (k:Nat),rAs s (vs++[x]) k=rAs s vs k++adr s ((k+vs.length) * 2)::vAs x
 | [],k=>by simp [rAs]
 | y::r,k=>by
  have h:=rAs_app s x r (k+1)
  have e:k+1+r.length=k+(r.length+1):=by omega
  simp [rAs,h,e]
theorem mAs_app (x:RS):∀ (S:List RS),mAs (S++[x])=mAs S++rAs x.s x.vs 0
 | []=>by simp [mAs]
 | r::t=>by simp [mAs,mAs_app x t]
theorem mem_vAs {x:VS} {a:Addr}:a∈vAs x↔∃ i,i < x.n∧a=adr x.s i:=by
 simp [vAs]
 constructor
 ·rintro ⟨i,h,rfl⟩;exact ⟨i,h,rfl⟩
 ·rintro ⟨i,h,rfl⟩;exact ⟨i,h,rfl⟩
theorem mem_rAs {s:Option Addr} {a:Addr}:∀ {vs:List VS} {k:Nat},a∈rAs s vs k↔(∃ i,i < vs.length∧a=adr s ((k+i) * 2))∨∃ x∈vs,a∈vAs x
 | [],k=>by simp [rAs]
 | y::r,k=>by
  simp only [rAs,List.mem_cons,List.mem_append,mem_rAs (vs:=r) (k:=k+1)]
  constructor
  ·rintro (h | h | ⟨i,h,e⟩ | ⟨x,h,e⟩)
   ·exact .inl ⟨0,by simp,by simpa using h⟩
   ·exact .inr ⟨y,.inl rfl,h⟩
   ·exact .inl ⟨i+1,by simpa using h,by rw [e];congr 2;omega⟩
   ·exact .inr ⟨x,.inr h,e⟩
  ·rintro (⟨i,h,e⟩ | ⟨x,h | h,e⟩)
   ·rcases Nat.eq_zero_or_pos i with rfl | hp
    ·exact .inl (by simpa using e)
    ·refine .inr (.inr (.inl ⟨i - 1,by simp at h;omega,?_⟩))
     rw [e];congr 2;omega
   ·subst h;exact .inr (.inl e)
   ·exact .inr (.inr (.inr ⟨x,h,e⟩))
theorem mem_mAs {a:Addr}:∀ {S:List RS},a∈mAs S↔∃ r∈S,a∈rAs r.s r.vs 0
 | []=>by simp [mAs]
 | r::t=>by simp [mAs,mem_mAs (S:=t)]
theorem vAs_len (x:VS):(vAs x).length=x.n:=by simp [vAs]
theorem vAs_at {x:VS} {i:Nat} (h:i < x.n):(vAs x)[i]? =some (adr x.s i):=by simp [vAs,h]
theorem vAs_nodup {x:VS} {g o:Nat} (h:x.s=some ⟨g,o,none⟩):(vAs x).Nodup:=by
 unfold vAs
 rw [h]
 refine List.Pairwise.map _ (fun a b hab e=>?_) List.nodup_range
 simp [adr] at e
 exact hab e
/- owned: with the places -/
structure VO (w:World) (lo hi:Nat) (x:VS) (l:List Int):Prop where
 n:x.n=l.length
 c:l=[]∨∃ g o,x.s=some ⟨g,o,none⟩∧lo≤g∧g < hi∧∀ i,i < l.length→w.cell? ⟨g,o+i,none⟩=some (.int .i64 (l.getD i 0))∧w.frozen? ⟨g,o+i,none⟩=false
structure RO (w:World) (lo hi:Nat) (r:RS) (l:List WD):Prop where
 n:r.vs.length=l.length
 c:l=[]∨∃ g o,r.s=some ⟨g,o,none⟩∧lo≤g∧g < hi∧∀ (i:Nat) (x:VS) (y:WD),r.vs[i]? =some x→l[i]? =some y→w.cell? ⟨g,o+i * 2,none⟩=some (.int .i64 y.v)∧w.frozen? ⟨g,o+i * 2,none⟩=false∧w.cell? ⟨g,o+i * 2+1,none⟩=some (.slice x.s x.n x.c)
 v:∀ (i:Nat) (x:VS) (y:WD),r.vs[i]? =some x→l[i]? =some y→VO w lo hi x y.vw
 o:∀ x∈r.vs,∀ a∈vAs x,∀ g o,r.s=some ⟨g,o,none⟩→a.block≠g
 d:(rAs r.s r.vs 0).Nodup
structure MO (w:World) (lo hi:Nat) (so:Option Addr) (S:List RS) (m:List (List WD)):Prop where
 n:S.length=m.length
 c:m=[]∨∃ g o,so=some ⟨g,o,none⟩∧lo≤g∧g < hi∧∀ (i:Nat) (r:RS),S[i]? =some r→w.cell? ⟨g,o+i,none⟩=some (.slice r.s r.vs.length r.c)
 r:∀ (i:Nat) (r:RS) (l:List WD),S[i]? =some r→m[i]? =some l→RO w lo hi r l
 d:(mAs S).Nodup
theorem Keep.frozen {lo hi:Nat} {w w':World} (h:Keep lo hi w w') {p:Addr} (h1:lo≤p.block) (h2:p.block < hi):w'.frozen? p=w.frozen? p:=World.frozen?_of_block (w:=w) (h p.block h1 h2)
theorem VO.keep {w w':World} {lo hi:Nat} {x:VS} {l:List Int} (h:VO w lo hi x l) (hb:Keep lo hi w w'):VO w' lo hi x l:=by
 refine ⟨h.n,?_⟩
 rcases h.c with h | ⟨g,o,hs,h1,h2,hc⟩
 ·exact .inl h
 ·exact .inr ⟨g,o,hs,h1,h2,fun i hi=>⟨(hb.cell (p:=⟨g,o+i,none⟩) h1 h2).trans (hc i hi).1,(hb.frozen (p:=⟨g,o+i,none⟩) h1 h2).trans (hc i hi).2⟩⟩
theorem RO.keep {w w':World} {lo hi:Nat} {r:RS} {l:List WD} (h:RO w lo hi r l) (hb:Keep lo hi w w'):RO w' lo hi r l:=by
 refine ⟨h.n,?_,fun i x y hx hy=>(h.v i x y hx hy).keep hb,h.o,h.d⟩
 rcases h.c with h | ⟨g,o,hs,h1,h2,hc⟩
 ·exact .inl h
 ·refine .inr ⟨g,o,hs,h1,h2,fun i x y hx hy=>?_⟩
  obtain ⟨a,b,c⟩:=hc i x y hx hy
  exact ⟨(hb.cell (p:=⟨g,o+i * 2,none⟩) h1 h2).trans a,(hb.frozen (p:=⟨g,o+i * 2,none⟩) h1 h2).trans b,(hb.cell (p:=⟨g,o+i * 2+1,none⟩) h1 h2).trans c⟩
theorem MO.keep {w w':World} {lo hi:Nat} {so:Option Addr} {S:List RS} {m:List (List WD)} (h:MO w lo hi so S m) (hb:Keep lo hi w w'):MO w' lo hi so S m:=by
 refine ⟨h.n,?_,fun i r l hr hl=>(h.r i r l hr hl).keep hb,h.d⟩
 rcases h.c with h | ⟨g,o,hs,h1,h2,hc⟩
 ·exact .inl h
 ·exact .inr ⟨g,o,hs,h1,h2,fun i r hr=>(hb.cell (p:=⟨g,o+i,none⟩) h1 h2).trans (hc i r hr)⟩
theorem VO.mono {w:World} {lo hi lo' hi':Nat} {x:VS} {l:List Int} (h:VO w lo hi x l) (a:lo'≤lo) (b:hi≤hi'):VO w lo' hi' x l:=by
 refine ⟨h.n,?_⟩
 rcases h.c with h | ⟨g,o,hs,h1,h2,hc⟩
 ·exact .inl h
 ·exact .inr ⟨g,o,hs,by omega,by omega,hc⟩
theorem RO.mono {w:World} {lo hi lo' hi':Nat} {r:RS} {l:List WD} (h:RO w lo hi r l) (a:lo'≤lo) (b:hi≤hi'):RO w lo' hi' r l:=by
 refine ⟨h.n,?_,fun i x y hx hy=>(h.v i x y hx hy).mono a b,h.o,h.d⟩
 rcases h.c with h | ⟨g,o,hs,h1,h2,hc⟩
 ·exact .inl h
 ·exact .inr ⟨g,o,hs,by omega,by omega,hc⟩
theorem MO.mono {w:World} {lo hi lo' hi':Nat} {so:Option Addr} {S:List RS} {m:List (List WD)} (h:MO w lo hi so S m) (a:lo'≤lo) (b:hi≤hi'):MO w lo' hi' so S m:=by
 refine ⟨h.n,?_,fun i r l hr hl=>(h.r i r l hr hl).mono a b,h.d⟩
 rcases h.c with h | ⟨g,o,hs,h1,h2,hc⟩
 ·exact .inl h
 ·exact .inr ⟨g,o,hs,by omega,by omega,hc⟩
theorem at_same {α β:Type} {a:List α} {b:List β} (h:a.length=b.length) {i:Nat} {y:β} (hy:b[i]? =some y):∃ x,a[i]? =some x:=by
 have:=(List.getElem?_eq_some_iff.1 hy).1
 exact ⟨_,List.getElem?_eq_getElem (by omega)⟩
theorem VO.ints {w:World} {lo hi:Nat} {x:VS} {l:List Int} (h:VO w lo hi x l):IntsR w lo hi x.s l:=by
 rcases h.c with h | ⟨g,o,hs,h1,h2,hc⟩
 ·exact .inl h
 ·exact .inr ⟨g,o,hs,h1,h2,fun i hi=>(hc i hi).1⟩
theorem RO.ws {w:World} {lo hi:Nat} {r:RS} {l:List WD} (h:RO w lo hi r l):WsR w lo hi r.s l:=by
 rcases h.c with e | ⟨g,o,hs,h1,h2,hc⟩
 ·exact .inl e
 ·refine .inr ⟨g,o,hs,h1,h2,fun i y hy=>?_⟩
  obtain ⟨x,hx⟩:=at_same h.n hy
  obtain ⟨a,b,c⟩:=hc i x y hx hy
  have hv:=h.v i x y hx hy
  exact ⟨x.s,x.c,a,by rw [c,hv.n],hv.ints⟩
theorem MO.mem {w:World} {lo hi:Nat} {so:Option Addr} {S:List RS} {m:List (List WD)} (h:MO w lo hi so S m):MemR w lo hi so m:=by
 rcases h.c with e | ⟨g,o,hs,h1,h2,hc⟩
 ·exact .inl e
 ·refine .inr ⟨g,o,hs,h1,h2,fun i l hl=>?_⟩
  obtain ⟨r,hr⟩:=at_same h.n hl
  have hv:=h.r i r l hr hl
  exact ⟨r.s,r.c,by rw [hc i r hr,hv.n],hv.ws⟩
/- where the places lie -/
theorem VO.blk {w:World} {lo hi:Nat} {x:VS} {l:List Int} (h:VO w lo hi x l) {a:Addr} (ha:a∈vAs x):lo≤a.block∧a.block < hi:=by
 obtain ⟨i,hi',rfl⟩:=mem_vAs.1 ha
 rcases h.c with e | ⟨g,o,hs,h1,h2,hc⟩
 ·have:=h.n;rw [e] at this;simp at this;omega
 ·rw [hs];exact ⟨h1,h2⟩
theorem RO.blk {w:World} {lo hi:Nat} {r:RS} {l:List WD} (h:RO w lo hi r l) {a:Addr} (ha:a∈rAs r.s r.vs 0):lo≤a.block∧a.block < hi:=by
 rcases mem_rAs.1 ha with ⟨i,hi',rfl⟩ | ⟨x,hx,hax⟩
 ·rcases h.c with e | ⟨g,o,hs,h1,h2,hc⟩
  ·have:=h.n;rw [e] at this;simp at this;rw [this] at hi';simp at hi'
  ·rw [hs];exact ⟨h1,h2⟩
 ·obtain ⟨i,hi',e⟩:=List.getElem_of_mem hx
  have hl:i < l.length:=by have:=h.n;omega
  exact (h.v i x l[i] (by rw [List.getElem?_eq_getElem hi',e]) (List.getElem?_eq_getElem hl)).blk hax
theorem MO.blk {w:World} {lo hi:Nat} {so:Option Addr} {S:List RS} {m:List (List WD)} (h:MO w lo hi so S m) {a:Addr} (ha:a∈mAs S):lo≤a.block∧a.block < hi:=by
 obtain ⟨r,hr,har⟩:=mem_mAs.1 ha
 obtain ⟨i,hi',e⟩:=List.getElem_of_mem hr
 have hl:i < m.length:=by have:=h.n;omega
 exact (h.r i r m[i] (by rw [List.getElem?_eq_getElem hi',e]) (List.getElem?_eq_getElem hl)).blk har
theorem RO.nil (w:World) (lo hi:Nat) (s:Option Addr) (c:Nat):RO w lo hi ⟨s,c,[]⟩ []:=⟨rfl,.inl rfl,fun i x y hx=>by simp at hx,fun x hx=>by simp at hx,by simp [rAs]⟩
theorem MO.nil (w:World) (lo hi:Nat) (s:Option Addr):MO w lo hi s [] []:=⟨rfl,.inl rfl,fun i x y hx=>by simp at hx,by simp [mAs]⟩
theorem getElem?_push {α:Type} {l:List α} {y x:α} {i:Nat} (h:(l++[y])[i]? =some x):l[i]? =some x∨(i=l.length∧x=y):=by
 by_cases hi:i < l.length
 ·rw [List.getElem?_append_left hi] at h;exact .inl h
 ·have:=(List.getElem?_eq_some_iff.1 h).1
  simp at this
  have e:i=l.length:=by omega
  subst e
  simp at h
  exact .inr ⟨rfl,h.symm⟩
theorem RO.far2 {w w':World} {lo hi:Nat} {r:RS} {l:List WD} (h:RO w lo hi r l) (hk:∀ a∈rAs r.s r.vs 0,w'.heap[a.block]? =w.heap[a.block]?):RO w' lo hi r l:=by
 refine ⟨h.n,?_,fun i x y e1 e2=>?_,h.o,h.d⟩
 ·rcases h.c with h0 | ⟨g,o,es,b1,b2,hc⟩
  ·exact .inl h0
  ·refine .inr ⟨g,o,es,b1,b2,fun i x y e1 e2=>?_⟩
   have hi':=(List.getElem?_eq_some_iff.1 e1).1
   have hne:w'.heap[g]? =w.heap[g]? :=by
    have:=hk (adr r.s (i * 2)) (mem_rAs.2 (.inl ⟨i,hi',by rw [Nat.zero_add]⟩))
    rw [es] at this
    exact this
   obtain ⟨a,b,c⟩:=hc i x y e1 e2
   exact ⟨(World.cell?_of_block (w:=w) hne).trans a,(World.frozen?_of_block (w:=w) hne).trans b,(World.cell?_of_block (w:=w) hne).trans c⟩
 ·have hv:=h.v i x y e1 e2
  refine ⟨hv.n,?_⟩
  rcases hv.c with h0 | ⟨g,o,es,b1,b2,hc⟩
  ·exact .inl h0
  ·refine .inr ⟨g,o,es,b1,b2,fun j hj=>?_⟩
   have hne:w'.heap[g]? =w.heap[g]? :=by
    have:=hk (adr x.s j) (mem_rAs.2 (.inr ⟨x,List.mem_of_getElem? e1,mem_vAs.2 ⟨j,by rw [hv.n];exact hj,rfl⟩⟩))
    rw [es] at this
    exact this
   exact ⟨(World.cell?_of_block (w:=w) hne).trans (hc j hj).1,(World.frozen?_of_block (w:=w) hne).trans (hc j hj).2⟩
/- a row grows by one write -/
theorem RO.push {w w' : World} {lo hi G O c : Nat} {vs : List VS} {l : List WD} (x : VS) (y : WD) (h : RO w lo hi ⟨some ⟨G, O, none⟩, c, vs⟩ l) (hG : lo ≤ G ∧ G < hi)
  (hs:∀ a:Addr,a≠⟨G,O+l.length * 2,none⟩→a≠⟨G,O+l.length * 2+1,none⟩→w'.cell? a=w.cell? a∧w'.frozen? a=w.frozen? a)
  (h1:w'.cell? ⟨G,O+l.length * 2,none⟩=some (.int .i64 y.v)) (h2:w'.frozen? ⟨G,O+l.length * 2,none⟩=false) (h3:w'.cell? ⟨G,O+l.length * 2+1,none⟩=some (.slice x.s x.n x.c))
  (hx:VO w' lo hi x y.vw) (hxg:∀ a∈vAs x,a.block≠G) (hxd:(vAs x).Nodup) (hd:∀ x'∈vs,∀ a∈vAs x',a∉vAs x):RO w' lo hi ⟨some ⟨G,O,none⟩,c,vs++[x]⟩ (l++[y]):=by
 have hn:vs.length=l.length:=h.n
 have far:∀ x'∈vs,∀ a∈vAs x',w'.cell? a=w.cell? a∧w'.frozen? a=w.frozen? a:=fun x' hx' a ha=>by
  have:=h.o x' hx' a ha G O rfl
  exact hs a (fun e=>this (by rw [e])) (fun e=>this (by rw [e]))
 refine ⟨by simp [hn],.inr ⟨G,O,rfl,hG.1,hG.2,fun i x1 y1 e1 e2=>?_⟩,fun i x1 y1 e1 e2=>?_,fun x' hx' a ha g o e=>?_,?_⟩
 ·rcases getElem?_push e1 with e1 | ⟨i1,rfl⟩
  ·rcases getElem?_push e2 with e2 | ⟨i2,rfl⟩
   ·rcases h.c with h0 | ⟨g,o,e,-,-,hc⟩
    ·rw [h0] at e2;simp at e2
    ·injection e with e;injection e with e3 e4 e5
     subst e3 e4
     obtain ⟨a,b,c⟩:=hc i x1 y1 e1 e2
     have hi2:=(List.getElem?_eq_some_iff.1 e2).1
     have q1:=hs ⟨G,O+i * 2,none⟩ (by intro e;injection e with a1 a2;omega) (by intro e;injection e with a1 a2;omega)
     have q2:=hs ⟨G,O+i * 2+1,none⟩ (by intro e;injection e with a1 a2;omega) (by intro e;injection e with a1 a2;omega)
     exact ⟨q1.1.trans a,q1.2.trans b,q2.1.trans c⟩
   ·have:=(List.getElem?_eq_some_iff.1 e1).1
    have h9:vs.length=l.length:=hn
    omega
  ·rcases getElem?_push e2 with e2 | ⟨i2,rfl⟩
   ·have:=(List.getElem?_eq_some_iff.1 e2).1
    omega
   ·subst i2
    exact ⟨h1,h2,h3⟩
 ·rcases getElem?_push e1 with e1 | ⟨i1,rfl⟩
  ·rcases getElem?_push e2 with e2 | ⟨i2,rfl⟩
   ·have hv:=h.v i x1 y1 e1 e2
    refine ⟨hv.n,?_⟩
    rcases hv.c with h0 | ⟨g,o,es,b1,b2,hc⟩
    ·exact .inl h0
    ·refine .inr ⟨g,o,es,b1,b2,fun j hj=>?_⟩
     have q:=far x1 (List.mem_of_getElem? e1) ⟨g,o+j,none⟩ (mem_vAs.2 ⟨j,by rw [hv.n];exact hj,by rw [es];rfl⟩)
     exact ⟨q.1.trans (hc j hj).1,q.2.trans (hc j hj).2⟩
   ·have:=(List.getElem?_eq_some_iff.1 e1).1
    omega
  ·rcases getElem?_push e2 with e2 | ⟨i2,rfl⟩
   ·have:=(List.getElem?_eq_some_iff.1 e2).1
    omega
   ·exact hx
 ·injection e with e;injection e with e3 e4 e5
  subst e3
  rcases List.mem_append.1 hx' with hx' | hx'
  ·exact h.o x' hx' a ha G O rfl
  ·simp at hx'
   subst hx'
   exact hxg a ha
 ·show (rAs (some ⟨G,O,none⟩) (vs++[x]) 0).Nodup
  rw [rAs_app,Nat.zero_add]
  refine List.nodup_append.2 ⟨h.d,List.nodup_cons.2 ⟨fun hm=>hxg _ hm rfl,hxd⟩,fun a ha b hb e=>?_⟩
  subst e
  rcases mem_rAs.1 ha with ⟨i,hi',e⟩ | ⟨x',hx',hax⟩
  ·simp only [Nat.zero_add] at e
   rcases List.mem_cons.1 hb with hb | hb
   ·rw [e] at hb
    simp [adr] at hb
    omega
   ·exact hxg _ hb (by rw [e];rfl)
  ·rcases List.mem_cons.1 hb with hb | hb
   ·exact h.o x' hx' a hax G O rfl (by rw [hb];rfl)
   ·exact hd x' hx' a hax hb
end
section
set_option linter.unusedSimpArgs false
set_option linter.unusedVariables false
set_option maxRecDepth 100000
open Go.RowKit
theorem mkW (n:Nat) (hn:n≤1048576) (w:World):(Instr.makeSlice 97 (.int .i64 (n:Int)) (.int .i64 (n:Int))).run Tryz.prog w=.ok (.slice (some ⟨w.heap.size,0,none⟩) n n) (w.alloc (.cells (madeCells #[.int .i64 0,.slice none 0 0] (n * 2)) 99)):=by
 have h:=run_make (P:=Tryz.prog) w 97 99 _ (.agg #[.int .i64 0,.slice none 0 0]) Tryz.underlying97 rfl rfl .i64 .i64 n n (by omega) (Int.le_refl _) (by show (32:Int) * _≤_;omega) (by omega)
 have e:(Value.agg #[.int .i64 0,.slice none 0 0]).cells=#[.int .i64 0,.slice none 0 0]:=rfl
 have e':∀ t,Tryz.prog.info? 99=some t→t.size=2:=by intro t h;cases h;rfl
 rw [e,e' _ rfl] at h
 simpa using h
theorem mkWW (n:Nat) (hn:n≤1048576) (w:World):(Instr.makeSlice 33 (.int .i64 (n:Int)) (.int .i64 (n:Int))).run Tryz.prog w=.ok (.slice (some ⟨w.heap.size,0,none⟩) n n) (w.alloc (.cells (madeCells #[.slice none 0 0] (n * 1)) 97)):=by
 have h:=run_make (P:=Tryz.prog) w 33 97 _ (.slice none 0 0) Tryz.underlying33 rfl rfl .i64 .i64 n n (by omega) (Int.le_refl _) (by show (24:Int) * _≤_;omega) (by omega)
 have e:(Value.slice none 0 0).cells=#[.slice none 0 0]:=rfl
 have e':∀ t,Tryz.prog.info? 97=some t→t.size=1:=by intro t h;cases h;rfl
 rw [e,e' _ rfl] at h
 simpa using h
end
end Go.Proofs.YtlbeploopclegaaGreat
