/- A region that draws its order, whose operations only read and whose callees only make new memory: one walk, in the order of the text. No condition. Lists of integers as they lie in memory, and what the laws' small functions make of them. Conditions: the lists are of at most a thousand million numbers. Lists of integers as they lie in memory between two blocks, and how the laws copy and count them. Conditions: at most 1048576 integers where they are copied. Rows of numbers that a call has made: how they lie, what keeps them, and append of one number, and of three noughts. Conditions: fewer than 2^40 numbers. Sources as they lie in memory: rows of threads, of channels and of notes, read and owned. Rows of sources that are made and written: what stores make of them, and how the laws copy a list of integers. Conditions: each list of at most 1048576. Append of a thread or a channel onto a row of them that a call has made. Conditions: fewer than 2^30 of them. The plain side of chapter 1: when a place is right, which registers it takes and sets: functions of integers alone. No condition. -/
import Derived.Test.YtknffngbdakblaaGreatChecked
import Derived.WalkKit
import Derived.KernelRfl
import Derived.Below
import Derived.Deep.QuietTactic
import Derived.BigQuiet
import Derived.WalkSpells
import Derived.WalkLawsBesides
import Derived.Laws.MakeOwn
import Derived.Laws.OwnMore
import Derived.Deep.AppendLies
namespace Go.Proofs.YtknffngbdakblaaGreat
section
set_option linter.unusedSimpArgs false
set_option linter.unusedVariables false
set_option maxRecDepth 100000
open Go.RowKit
/- a world that has all that W has, and perhaps more -/
structure Ext (W:World) where
 w:World
 b:Below W.heap.size W w
theorem ext_ne (W:World):Nonempty (Ext W):=⟨⟨W,Below.refl _ _⟩⟩
theorem regionExt {P : Program} {id : Nat} {Q : Exit → Act → World → Prop} {a : Act} (W : World) {l : List Oper} (hm : P.follows .mixedOrders = true) (hB : Region.lexB .any l.toArray = true)
  (h:wpQuiet P l.toArray (fun w'=>∃ x:Ext W,w'=x.w) (fun a'=>∀ w',(∃ x:Ext W,w'=x.w)→Q .normal a' w') l a):(Code.region id l.toArray true).wp P Q a W:=
 wp_region_quiet (C:=fun w'=>∃ x:Ext W,w'=x.w) hm hB ⟨⟨{ W with drawn:=W.drawn+1 },⟨rfl,rfl,rfl,Nat.le_refl _,fun _ _=>rfl⟩⟩,rfl⟩ (by simpa using h)
theorem Ext.fit {W:World} {b o:Nat} {v:Value} (h:W.cell? ⟨b,o,none⟩=some v) (hb:b < W.heap.size):∀ x:Ext W,x.w.cell? ⟨b,o,none⟩=some v:=fun x=>(x.b.cell (p:=⟨b,o,none⟩) hb).trans h
theorem Ext.on {W:World} (X:Ext W) {w3:World} (h:Below X.w.heap.size X.w w3):∃ y:Ext W,w3=y.w:=⟨⟨w3,X.b.trans (h.mono X.b.size)⟩,rfl⟩
end
section
set_option linter.unusedSimpArgs false
set_option linter.unusedVariables false
set_option maxRecDepth 100000
open Go.RowKit
def Ints (w:World) (s:Option Addr) (l:List Int):Prop:=
 l=[]∨∃ g o,s=some ⟨g,o,none⟩∧g < w.heap.size∧∀ i,i < l.length→w.cell? ⟨g,o+i,none⟩=some (.int .i64 (l.getD i 0))
theorem ret_bool' {x y:Bool} (h:x=y):Ending.returned (.bool x)=Ending.returned (.bool y):=by rw [h]
theorem getD_eq_all (l l':List Int) (h:l.length=l'.length) (hj:∀ j,j < l.length→l.getD j 0=l'.getD j 0):l=l':=by
 apply List.ext_getElem h
 intro i h1 h2
 have:=hj i h1
 simpa [List.getD_eq_getElem?_getD,h1,h2] using this
end
section
set_option linter.unusedSimpArgs false
set_option linter.unusedVariables false
set_option maxRecDepth 100000
open Go.RowKit
theorem setC_at {w:World} {g i:Nat} {v:Value} (h:(w.cell? ⟨g,i,none⟩).isSome=true):(w.setCell ⟨g,i,none⟩ v).cell? ⟨g,i,none⟩=some v:=World.cell?_setCell_same' w _ v h
theorem setC_off {w:World} {g i j:Nat} {v:Value} (h:i≠j):(w.setCell ⟨g,i,none⟩ v).cell? ⟨g,j,none⟩=w.cell? ⟨g,j,none⟩:=by
 apply World.cell?_setCell_other
 intro e
 injection e with e1 e2
 exact h e2
def Keep (lo hi:Nat) (w w':World):Prop:=∀ k,lo≤k→k < hi→w'.heap[k]? =w.heap[k]?
theorem Keep.of_below {lo hi B:Nat} {w w':World} (hb:Below B w w') (h:hi≤B):Keep lo hi w w':=fun k _ hk=>hb.block k (by omega)
theorem Keep.cell {lo hi:Nat} {w w':World} (h:Keep lo hi w w') {p:Addr} (h1:lo≤p.block) (h2:p.block < hi):w'.cell? p=w.cell? p:=World.cell?_of_block (w:=w) (h p.block h1 h2)
def IntsR (w:World) (lo hi:Nat) (s:Option Addr) (l:List Int):Prop:=
 l=[]∨∃ g off,s=some ⟨g,off,none⟩∧lo≤g∧g < hi∧∀ i,i < l.length→w.cell? ⟨g,off+i,none⟩=some (.int .i64 (l.getD i 0))
theorem IntsR.keep {w w':World} {lo hi:Nat} {s:Option Addr} {l:List Int} (h:IntsR w lo hi s l) (hb:Keep lo hi w w'):IntsR w' lo hi s l:=by
 rcases h with h | ⟨g,o,hs,h1,h2,hc⟩
 ·exact .inl h
 ·exact .inr ⟨g,o,hs,h1,h2,fun i hi=>(hb.cell h1 h2).trans (hc i hi)⟩
theorem IntsR.mono {w:World} {lo hi lo' hi':Nat} {s:Option Addr} {l:List Int} (h:IntsR w lo hi s l) (h1:lo'≤lo) (h2:hi≤hi'):IntsR w lo' hi' s l:=by
 rcases h with h | ⟨g,o,hs,a,b,hc⟩
 ·exact .inl h
 ·exact .inr ⟨g,o,hs,by omega,by omega,hc⟩
theorem IntsR.ints {w:World} {lo hi:Nat} {s:Option Addr} {l:List Int} (h:IntsR w lo hi s l) (hh:hi≤w.heap.size):Ints w s l:=by
 rcases h with h | ⟨g,o,hs,a,b,hc⟩
 ·exact .inl h
 ·exact .inr ⟨g,o,hs,by omega,hc⟩
theorem mkInt (n:Nat) (hn:n≤1048576) (w:World):(Instr.makeSlice 24 (.int .i64 (n:Int)) (.int .i64 (n:Int))).run Tryz.prog w=.ok (.slice (some ⟨w.heap.size,0,none⟩) n n) (w.alloc (.cells (madeCells #[.int .i64 0] (n * 1)) 3)):=by
 have h:=run_make (P:=Tryz.prog) w 24 3 _ (.int .i64 0) Tryz.underlying24 rfl rfl .i64 .i64 n n (by omega) (Int.le_refl _) (by show (8:Int) * _≤_;omega) (by omega)
 have e:(Value.int .i64 0).cells=#[.int .i64 0]:=rfl
 have e':∀ t,Tryz.prog.info? 3=some t→t.size=1:=by intro t h;cases h;rfl
 rw [e,e' _ rfl] at h
 simpa using h
theorem setC_blk {w:World} {g g' i j:Nat} {v:Value} (h:g≠g'):(w.setCell ⟨g,i,none⟩ v).cell? ⟨g',j,none⟩=w.cell? ⟨g',j,none⟩:=by
 apply World.cell?_setCell_other
 intro e
 injection e with e1 e2
 exact h e1
end
section
set_option linter.unusedSimpArgs false
set_option linter.unusedVariables false
set_option maxRecDepth 100000
open Go.RowKit
def OwnN (w:World) (base:Nat) (v:Value) (ls:List Int):Prop:=w.ownsRow base 3 1 v ls.length (ls.map (Value.int .i64))
theorem infoInt:∃ i,Tryz.prog.info? 3=some i∧i.zero=some (.int .i64 0)∧i.size=1∧i.bytes=8:=⟨_,rfl,rfl,rfl,rfl⟩
theorem ownN_empty {w:World} {base:Nat} (hb:base≤w.heap.size):OwnN (w.alloc (.cells #[] 3)) base (.slice (some ⟨w.heap.size,0,none⟩) 0 0) []:=
 World.ownsRow_lit w #[] 0 hb (by unfold maxLen;omega) rfl
theorem OwnN.keep {w w':World} {base:Nat} {v:Value} {ls:List Int} (h:OwnN w base v ls) (hb:∀ k,base≤k→k < w.heap.size→w'.heap[k]? =w.heap[k]?):OwnN w' base v ls:=by
 obtain ⟨h1,h2⟩:=h
 refine ⟨h1,?_⟩
 rcases h2 with h2 | ⟨g,cap,cur,a,b,c,d⟩
 ·exact .inl h2
 ·have hlt:g < w.heap.size:=(Array.getElem?_eq_some_iff.1 c).1
  exact .inr ⟨g,cap,cur,a,b,(hb g b hlt).trans c,d⟩
theorem OwnN.below {w w':World} {base:Nat} {v:Value} {ls:List Int} (h:OwnN w base v ls) (hb:Below w.heap.size w w'):OwnN w' base v ls:=h.keep fun k _ hk=>hb.block k hk
theorem OwnN.alloc {w:World} {base:Nat} {v:Value} {ls:List Int} (h:OwnN w base v ls) (o:Obj):OwnN (w.alloc o) base v ls:=h.keep fun k _ hk=>Below.heap_alloc _ _ _ hk
theorem OwnN.cell {w:World} {base g cap:Nat} {ls:List Int} (h:OwnN w base (.slice (some ⟨g,0,none⟩) ls.length cap) ls) {i:Nat} (hi:i < ls.length):w.cell? ⟨g,i,none⟩=some (.int .i64 (ls.getD i 0)):=by
 rw [World.ownsRow.cellAt h i (by omega)]
 simp [List.getD_eq_getElem?_getD,List.getElem?_eq_getElem hi]
theorem OwnN.sl {w:World} {base:Nat} {v:Value} {ls:List Int} (h:OwnN w base v ls):∃ s cap,v=.slice s ls.length cap:=by
 rcases h.2 with ⟨h1,h2⟩ | ⟨g,cap,cur,a,-⟩
 ·exact ⟨none,0,by rw [h1,h2]⟩
 ·exact ⟨_,_,a⟩
theorem newN1 (w:World) (u:Value):∀ j v,[u][j]? =some v→(w.alloc (.cells #[u] 3)).cell? (Addr.add ⟨w.heap.size,0,none⟩ j)=some v:=by
 intro j v h
 match j,h with
 | 0,h=>simpa [Addr.add,go_sem] using h
 | j+1,h=>simp at h
theorem app_int {ops : Array Oper} {rest : List Oper} {o : Oper} {a : Act} {Q : Exit → Act → World → Prop} (hgd : o.guard = none) (s x : Operand) (ho : o.op = .call { callee := .builtin .append, args := #[s, x], argTypes := #[24, 24] })
  (w:World) (z:Int) (base:Nat) (v:Value) (ls:List Int) (hs:a.eval s=v) (hown:OwnN w base v ls) (hx:a.eval x=.slice (some ⟨w.heap.size,0,none⟩) 1 1) (hn:ls.length≤1099511627776) (hbase:base≤w.heap.size)
  (h:∀ g cap w',OwnN w' base (.slice (some ⟨g,0,none⟩) (ls.length+1) cap) (ls++[z])→Below base w w'→w.heap.size≤w'.heap.size→wpList Tryz.prog ops Q rest (a.put o.dst (.slice (some ⟨g,0,none⟩) (ls.length+1) cap)) w'):
  wpList Tryz.prog ops Q (o::rest) a (w.alloc (.cells #[.int .i64 z] 3)):=by
 obtain ⟨i0,hi,hz0,hz1,hz2⟩:=infoInt
 have h1':=hown.alloc (.cells #[.int .i64 z] 3)
 refine wpList_append_lies _ hgd s x 24 ho base 3 i0 _ 1 8 Tryz.underlying24 hi hz0 hz1 hz2 rfl (by decide) v ls.length _ hs h1' ⟨w.heap.size,0,none⟩ 1 1 [.int .i64 z] hx rfl (newN1 w _) (fun u hu=>by simp at hu;subst hu;rfl) (by decide) (by unfold maxLen;omega) (by omega) (by simp;omega) _ rfl ?_
 intro g cap w' q1 q2 q3 q4
 have hb:Below base w w':=Below.grown (((Below.refl _ _).alloc hbase _)) q2 (by simp;omega) (fun j hj=>(World.ownsRow.lt h1' _ hj).1)
 refine h g cap w' ?_ hb hb.size
 show w'.ownsRow base 3 1 _ (ls++[z]).length ((ls++[z]).map (Value.int .i64))
 rw [List.map_append,List.length_append]
 exact q1
end
section
set_option linter.unusedSimpArgs false
set_option linter.unusedVariables false
set_option maxRecDepth 100000
open Go.RowKit
structure TD where
 pc:Int
 regs:List Int
 st:Int
structure CD where
 cap:Int
 list:List Int
 cl:Bool
structure ND where
 who:Int
 v:Int
structure SD where
 ths:List TD
 chs:List CD
 tr:List ND
/- a thread or a channel as three cells -/
structure Rec where
 a:Value
 l:List Int
 z:Value
def TD.rec3 (t:TD):Rec:=⟨.int .i64 t.pc,t.regs,.int .i64 t.st⟩
def CD.rec3 (t:CD):Rec:=⟨.int .i64 t.cap,t.list,.bool t.cl⟩
def RecR (w:World) (lo hi g off:Nat) (r:Rec):Prop:=
 ∃ s c,w.cell? ⟨g,off,none⟩=some r.a∧w.cell? ⟨g,off+1,none⟩=some (.slice s r.l.length c)∧w.cell? ⟨g,off+2,none⟩=some r.z∧IntsR w lo hi s r.l
def RecsR (w:World) (lo hi:Nat) (s:Option Addr) (l:List Rec):Prop:=
 l=[]∨∃ g off,s=some ⟨g,off,none⟩∧lo≤g∧g < hi∧∀ (i:Nat) (r:Rec),l[i]? =some r→RecR w lo hi g (off+i * 3) r
def NtR (w:World) (g off:Nat) (n:ND):Prop:=w.cell? ⟨g,off,none⟩=some (.int .i64 n.who)∧w.cell? ⟨g,off+1,none⟩=some (.int .i64 n.v)
def NtsR (w:World) (lo hi:Nat) (s:Option Addr) (l:List ND):Prop:=
 l=[]∨∃ g off,s=some ⟨g,off,none⟩∧lo≤g∧g < hi∧∀ (i:Nat) (n:ND),l[i]? =some n→NtR w g (off+i * 2) n
def SrcR (w:World) (lo hi:Nat) (s1 s2 s3:Option Addr) (d:SD):Prop:=RecsR w lo hi s1 (d.ths.map TD.rec3)∧RecsR w lo hi s2 (d.chs.map CD.rec3)∧NtsR w lo hi s3 d.tr
theorem RecR.keep {w w':World} {lo hi g off:Nat} {r:Rec} (h:RecR w lo hi g off r) (hb:Keep lo hi w w') (hc:∀ j,w'.cell? ⟨g,j,none⟩=w.cell? ⟨g,j,none⟩):RecR w' lo hi g off r:=by
 obtain ⟨s,c,h1,h2,h3,h4⟩:=h
 exact ⟨s,c,(hc _).trans h1,(hc _).trans h2,(hc _).trans h3,h4.keep hb⟩
theorem RecR.mono {w:World} {lo hi lo' hi' g off:Nat} {r:Rec} (h:RecR w lo hi g off r) (h1:lo'≤lo) (h2:hi≤hi'):RecR w lo' hi' g off r:=by
 obtain ⟨s,c,a,b,d,e⟩:=h
 exact ⟨s,c,a,b,d,e.mono h1 h2⟩
theorem RecsR.keep {w w':World} {lo hi:Nat} {s:Option Addr} {l:List Rec} (h:RecsR w lo hi s l) (hb:Keep lo hi w w'):RecsR w' lo hi s l:=by
 rcases h with h | ⟨g,o,hs,h1,h2,hc⟩
 ·exact .inl h
 ·exact .inr ⟨g,o,hs,h1,h2,fun i r hi=>(hc i r hi).keep hb (fun j=>hb.cell h1 h2)⟩
theorem RecsR.mono {w:World} {lo hi lo' hi':Nat} {s:Option Addr} {l:List Rec} (h:RecsR w lo hi s l) (h1:lo'≤lo) (h2:hi≤hi'):RecsR w lo' hi' s l:=by
 rcases h with h | ⟨g,o,hs,a,b,hc⟩
 ·exact .inl h
 ·exact .inr ⟨g,o,hs,by omega,by omega,fun i r hi=>(hc i r hi).mono h1 h2⟩
theorem NtsR.keep {w w':World} {lo hi:Nat} {s:Option Addr} {l:List ND} (h:NtsR w lo hi s l) (hb:Keep lo hi w w'):NtsR w' lo hi s l:=by
 rcases h with h | ⟨g,o,hs,h1,h2,hc⟩
 ·exact .inl h
 ·exact .inr ⟨g,o,hs,h1,h2,fun i r hi=>⟨(hb.cell h1 h2).trans (hc i r hi).1,(hb.cell h1 h2).trans (hc i r hi).2⟩⟩
theorem NtsR.mono {w:World} {lo hi lo' hi':Nat} {s:Option Addr} {l:List ND} (h:NtsR w lo hi s l) (h1:lo'≤lo) (h2:hi≤hi'):NtsR w lo' hi' s l:=by
 rcases h with h | ⟨g,o,hs,a,b,hc⟩
 ·exact .inl h
 ·exact .inr ⟨g,o,hs,by omega,by omega,hc⟩
theorem SrcR.keep {w w':World} {lo hi:Nat} {s1 s2 s3:Option Addr} {d:SD} (h:SrcR w lo hi s1 s2 s3 d) (hb:Keep lo hi w w'):SrcR w' lo hi s1 s2 s3 d:=⟨h.1.keep hb,h.2.1.keep hb,h.2.2.keep hb⟩
theorem SrcR.mono {w:World} {lo hi lo' hi':Nat} {s1 s2 s3:Option Addr} {d:SD} (h:SrcR w lo hi s1 s2 s3 d) (h1:lo'≤lo) (h2:hi≤hi'):SrcR w lo' hi' s1 s2 s3 d:=⟨h.1.mono h1 h2,h.2.1.mono h1 h2,h.2.2.mono h1 h2⟩
/- owned rows -/
def flatR:List (Rec×Value)→List Value
 | []=>[]
 | x::t=>[x.1.a,x.2,x.1.z]++flatR t
theorem flatR_len:∀ L:List (Rec×Value),(flatR L).length=L.length * 3
 | []=>rfl
 | x::t=>by simp [flatR,flatR_len t];omega
theorem flatR_app:∀ (a b:List (Rec×Value)),flatR (a++b)=flatR a++flatR b
 | [],b=>rfl
 | x::r,b=>by simp [flatR,flatR_app r b]
theorem flatR_at:∀ (L:List (Rec×Value)) (i:Nat) (x:Rec×Value),L[i]? =some x→(flatR L)[i * 3]? =some x.1.a∧(flatR L)[i * 3+1]? =some x.2∧(flatR L)[i * 3+2]? =some x.1.z
 | [],i,x,h=>by simp at h
 | y::r,0,x,h=>by
  simp at h
  subst h
  exact ⟨rfl,rfl,rfl⟩
 | y::r,i+1,x,h=>by
  have h':r[i]? =some x:=by simpa using h
  have e:=flatR_at r i x h'
  have e0:(i+1) * 3=i * 3+3:=by omega
  rw [e0]
  exact e
def flatN:List ND→List Value
 | []=>[]
 | x::t=>[.int .i64 x.who,.int .i64 x.v]++flatN t
theorem flatN_len:∀ L:List ND,(flatN L).length=L.length * 2
 | []=>rfl
 | x::t=>by simp [flatN,flatN_len t];omega
theorem flatN_app:∀ (a b:List ND),flatN (a++b)=flatN a++flatN b
 | [],b=>rfl
 | x::r,b=>by simp [flatN,flatN_app r b]
theorem flatN_at:∀ (L:List ND) (i:Nat) (x:ND),L[i]? =some x→(flatN L)[i * 2]? =some (.int .i64 x.who)∧(flatN L)[i * 2+1]? =some (.int .i64 x.v)
 | [],i,x,h=>by simp at h
 | y::r,0,x,h=>by
  simp at h
  subst h
  exact ⟨rfl,rfl⟩
 | y::r,i+1,x,h=>by
  have h':r[i]? =some x:=by simpa using h
  have e:=flatN_at r i x h'
  have e0:(i+1) * 2=i * 2+2:=by omega
  rw [e0]
  exact e
structure OwnQ (w:World) (base:Nat) (e:TypeId) (v:Value) (L:List (Rec×Value)):Prop where
 row:w.ownsRow base e 3 v L.length (flatR L)
 inn:∀ (i:Nat) (x:Rec×Value),L[i]? =some x→OwnN w base x.2 x.1.l
 sep:∀ (i j:Nat) (x y:Rec×Value) (k:Nat),L[i]? =some x→L[j]? =some y→i≠j→x.2.ownBlock=some k→y.2.ownBlock≠some k
def OwnD (w:World) (base:Nat) (v:Value) (l:List ND):Prop:=w.ownsRow base 67 2 v l.length (flatN l)
theorem ownKeep' {w w':World} {base:Nat} {e:TypeId} {size n:Nat} {v:Value} {xs:List Value} (h:w.ownsRow base e size v n xs) (hb:∀ k,v.ownBlock=some k→w'.heap[k]? =w.heap[k]?):w'.ownsRow base e size v n xs:=by
 obtain ⟨h1,h2⟩:=h
 refine ⟨h1,?_⟩
 rcases h2 with h2 | ⟨g,cap,cur,rfl,b0,c,d⟩
 ·exact .inl h2
 ·exact .inr ⟨g,cap,cur,rfl,b0,(hb g rfl).trans c,d⟩
theorem ownLow' {w:World} {b b':Nat} {e:TypeId} {size n:Nat} {v:Value} {xs:List Value} (h:w.ownsRow b e size v n xs) (hb:b'≤b):w.ownsRow b' e size v n xs:=by
 obtain ⟨h1,h2⟩:=h
 refine ⟨h1,?_⟩
 rcases h2 with h2 | ⟨g,cap,cur,a,b0,c,d⟩
 ·exact .inl h2
 ·exact .inr ⟨g,cap,cur,a,Nat.le_trans hb b0,c,d⟩
theorem ownType' {w:World} {base base':Nat} {e e':TypeId} {size size' n n':Nat} {v v':Value} {xs xs':List Value} (h:w.ownsRow base e size v n xs) (h':w.ownsRow base' e' size' v' n' xs') (hne:e≠e') {k:Nat} (hk:v.ownBlock=some k):v'.ownBlock≠some k:=by
 intro hk'
 rcases h.2 with ⟨rfl,-⟩ | ⟨g,cap,cur,rfl,-,c,-⟩
 ·cases hk
 rcases h'.2 with ⟨rfl,-⟩ | ⟨g',cap',cur',rfl,-,c',-⟩
 ·cases hk'
 ·simp only [Value.ownBlock,Option.some.injEq] at hk hk'
  subst hk
  subst hk'
  rw [c] at c'
  injection c' with c'
  injection c' with c1 c2
  exact hne c2
theorem OwnQ.keep {w w':World} {base:Nat} {e:TypeId} {v:Value} {L:List (Rec×Value)} (h:OwnQ w base e v L) (hb:∀ k,base≤k→k < w.heap.size→w'.heap[k]? =w.heap[k]?):OwnQ w' base e v L:=
 ⟨ownKeep' h.row (fun k hk=>hb k (World.ownsRow.lt h.row _ hk).1 (World.ownsRow.lt h.row _ hk).2),fun i x hx=>ownKeep' (h.inn i x hx) (fun k hk=>hb k (World.ownsRow.lt (h.inn i x hx) _ hk).1 (World.ownsRow.lt (h.inn i x hx) _ hk).2),h.sep⟩
theorem OwnQ.nil (w:World) (base:Nat) (e:TypeId):OwnQ w base e (.slice none 0 0) []:=⟨World.ownsRow_nil _ _ _ _,fun i x hx=>by simp at hx,fun i j x y k hx=>by simp at hx⟩
theorem OwnQ.low {w:World} {b b':Nat} {e:TypeId} {v:Value} {L:List (Rec×Value)} (h:OwnQ w b e v L) (hb:b'≤b):OwnQ w b' e v L:=⟨ownLow' h.row hb,fun i x hx=>ownLow' (h.inn i x hx) hb,h.sep⟩
theorem ownSl {w:World} {base:Nat} {e:TypeId} {size n:Nat} {v:Value} {xs:List Value} (h:w.ownsRow base e size v n xs):∃ s c,v=.slice s n c:=by
 rcases h.2 with ⟨h1,h2⟩ | ⟨g,cap,cur,a,-⟩
 ·exact ⟨none,0,by rw [h1,h2]⟩
 ·exact ⟨_,_,a⟩
theorem ownN_ints {w:World} {base:Nat} {v:Value} {l:List Int} (h:OwnN w base v l):∃ s c,v=.slice s l.length c∧IntsR w base w.heap.size s l:=by
 rcases Nat.eq_zero_or_pos l.length with h0 | hpos
 ·obtain ⟨s,c,e⟩:=ownSl h
  exact ⟨s,c,e,.inl (List.length_eq_zero_iff.1 h0)⟩
 ·obtain ⟨g,cap,rfl,-⟩:=World.ownsRow.form h hpos
  have hlt:=World.ownsRow.lt h g rfl
  refine ⟨_,_,rfl,.inr ⟨g,0,rfl,hlt.1,hlt.2,fun i hi=>?_⟩⟩
  rw [Nat.zero_add,World.ownsRow.cellAt h i (by omega),List.getElem?_map,List.getD_eq_getElem?_getD,List.getElem?_eq_getElem hi]
  rfl
theorem OwnQ.recs {w:World} {base:Nat} {e:TypeId} {v:Value} {L:List (Rec×Value)} (h:OwnQ w base e v L):∃ s c,v=.slice s L.length c∧RecsR w base w.heap.size s (L.map Prod.fst):=by
 rcases Nat.eq_zero_or_pos L.length with h0 | hpos
 ·obtain ⟨s,c,e⟩:=ownSl h.row
  exact ⟨s,c,e,.inl (by rw [List.length_eq_zero_iff.1 h0];rfl)⟩
 ·obtain ⟨g,cap,rfl,-⟩:=World.ownsRow.form h.row hpos
  have hlt:=World.ownsRow.lt h.row g rfl
  refine ⟨_,_,rfl,.inr ⟨g,0,rfl,hlt.1,hlt.2,fun i r hr=>?_⟩⟩
  rw [List.getElem?_map] at hr
  obtain ⟨x,hx,rfl⟩:=Option.map_eq_some_iff.1 hr
  have hi:i < L.length:=(List.getElem?_eq_some_iff.1 hx).1
  obtain ⟨e0,e1,e2⟩:=flatR_at L i x hx
  obtain ⟨s,c,hv,hI⟩:=ownN_ints (h.inn i x hx)
  refine ⟨s,c,?_,?_,?_,hI⟩
  ·rw [Nat.zero_add,World.ownsRow.cellAt h.row _ (by omega)];exact e0
  ·rw [Nat.zero_add,World.ownsRow.cellAt h.row _ (by omega),e1,hv]
  ·rw [Nat.zero_add,World.ownsRow.cellAt h.row _ (by omega)];exact e2
theorem OwnD.nts {w:World} {base:Nat} {v:Value} {l:List ND} (h:OwnD w base v l):∃ s c,v=.slice s l.length c∧NtsR w base w.heap.size s l:=by
 rcases Nat.eq_zero_or_pos l.length with h0 | hpos
 ·obtain ⟨s,c,e⟩:=ownSl h
  exact ⟨s,c,e,.inl (List.length_eq_zero_iff.1 h0)⟩
 ·obtain ⟨g,cap,rfl,-⟩:=World.ownsRow.form h hpos
  have hlt:=World.ownsRow.lt h g rfl
  refine ⟨_,_,rfl,.inr ⟨g,0,rfl,hlt.1,hlt.2,fun i r hr=>?_⟩⟩
  have hi:i < l.length:=(List.getElem?_eq_some_iff.1 hr).1
  obtain ⟨e0,e1⟩:=flatN_at l i r hr
  refine ⟨?_,?_⟩
  ·rw [Nat.zero_add,World.ownsRow.cellAt h _ (by omega)];exact e0
  ·rw [Nat.zero_add,World.ownsRow.cellAt h _ (by omega)];exact e1
structure OwnS (w:World) (base:Nat) (v1 v2 v3:Value) (L1 L2:List (Rec×Value)) (d:SD):Prop where
 e1:L1.map Prod.fst=d.ths.map TD.rec3
 e2:L2.map Prod.fst=d.chs.map CD.rec3
 t:OwnQ w base 49 v1 L1
 c:OwnQ w base 65 v2 L2
 n:OwnD w base v3 d.tr
 sep:∀ (i j:Nat) (x y:Rec×Value) (k:Nat),L1[i]? =some x→L2[j]? =some y→x.2.ownBlock=some k→y.2.ownBlock≠some k
theorem OwnS.src {w:World} {base:Nat} {v1 v2 v3:Value} {L1 L2:List (Rec×Value)} {d:SD} (h:OwnS w base v1 v2 v3 L1 L2 d):∃ s1 c1 s2 c2 s3 c3,v1=.slice s1 d.ths.length c1∧v2=.slice s2 d.chs.length c2∧v3=.slice s3 d.tr.length c3∧SrcR w base w.heap.size s1 s2 s3 d:=by
 have l1:L1.length=d.ths.length:=by have:=congrArg List.length h.e1;simpa using this
 have l2:L2.length=d.chs.length:=by have:=congrArg List.length h.e2;simpa using this
 obtain ⟨s1,c1,q1,r1⟩:=h.t.recs
 obtain ⟨s2,c2,q2,r2⟩:=h.c.recs
 obtain ⟨s3,c3,q3,r3⟩:=h.n.nts
 rw [l1] at q1
 rw [l2] at q2
 rw [h.e1] at r1
 rw [h.e2] at r2
 exact ⟨s1,c1,s2,c2,s3,c3,q1,q2,q3,r1,r2,r3⟩
theorem OwnS.keep {w w':World} {base:Nat} {v1 v2 v3:Value} {L1 L2:List (Rec×Value)} {d:SD} (h:OwnS w base v1 v2 v3 L1 L2 d) (hb:∀ k,base≤k→k < w.heap.size→w'.heap[k]? =w.heap[k]?):OwnS w' base v1 v2 v3 L1 L2 d:=
 ⟨h.e1,h.e2,h.t.keep hb,h.c.keep hb,ownKeep' h.n (fun k hk=>hb k (World.ownsRow.lt h.n _ hk).1 (World.ownsRow.lt h.n _ hk).2),h.sep⟩
def SFits (d:SD):Prop:=(d.ths.length≤1048576∧∀ (i:Nat) (t:TD),d.ths[i]? =some t→t.regs.length≤1048576)∧(d.chs.length≤1048576∧∀ (i:Nat) (t:CD),d.chs[i]? =some t→t.list.length≤1048576)∧d.tr.length≤1048576
end
section
set_option linter.unusedSimpArgs false
set_option linter.unusedVariables false
set_option maxRecDepth 100000
open Go.RowKit
/- a store of three cells -/
def set3 (w:World) (g o:Nat) (a b c:Value):World:=((w.setCell ⟨g,o,none⟩ a).setCell ⟨g,o+1,none⟩ b).setCell ⟨g,o+2,none⟩ c
theorem set3_size {g o:Nat} {w:World} {a b c:Value}:(set3 w g o a b c).heap.size=w.heap.size:=by simp [set3]
theorem set3_block {g o k:Nat} {w:World} {a b c:Value} (h:k≠g):(set3 w g o a b c).heap[k]? =w.heap[k]? :=by
 unfold set3
 rw [Below.heap_setCell _ _ _ k h,Below.heap_setCell _ _ _ k h,Below.heap_setCell _ _ _ k h]
theorem flatN_rep (n:Nat):flatN (List.replicate n ⟨0,0⟩)=(madeCells #[.int .i64 0,.int .i64 0] (n * 2)).toList:=by
 apply List.ext_getElem?
 intro j
 by_cases hj:j < n * 2
 ·have h1:(List.replicate n (⟨0,0⟩:ND))[j / 2]? =some ⟨0,0⟩:=by rw [List.getElem?_replicate,if_pos (by omega)]
  obtain ⟨e0,e1⟩:=flatN_at _ _ _ h1
  have hm:(madeCells #[.int .i64 0,.int .i64 0] (n * 2)).toList[j]? =some (.int .i64 0):=by
   simp [madeCells,hj]
   rcases (show j % 2=0∨j % 2=1 by omega) with h | h<;>rw [h]<;>rfl
  rw [hm]
  rcases (show j % 2=0∨j % 2=1 by omega) with h | h
  ·rw [show j=j / 2 * 2 by omega,e0]
  ·rw [show j=j / 2 * 2+1 by omega,e1]
 ·rw [List.getElem?_eq_none (by rw [flatN_len];simp;omega),List.getElem?_eq_none (by rw [Array.length_toList,size_madeCells];omega)]
end
section
set_option linter.unusedSimpArgs false
set_option linter.unusedVariables false
set_option maxRecDepth 100000
open Go.RowKit
theorem OwnQ.push {w w' : World} {base g cap : Nat} {e : TypeId} {v : Value} {L : List (Rec × Value)} {y : Rec × Value} (he : 3 ≠ e) (h : OwnQ w base e v L) (hy : OwnN w base y.2 y.1.l) (hyv : ∀ k, y.2.ownBlock = some k → v.ownBlock ≠ some k)
  (hs:∀ (i:Nat) (z:Rec×Value) (k:Nat),L[i]? =some z→y.2.ownBlock=some k→z.2.ownBlock≠some k)
  (q1:w'.ownsRow base e 3 (.slice (some ⟨g,0,none⟩) (L.length+1) cap) (L.length+1) (flatR L++[y.1.a,y.2,y.1.z])) (hk:∀ k,k < w.heap.size→v.ownBlock≠some k→w'.heap[k]? =w.heap[k]?):
  OwnQ w' base e (.slice (some ⟨g,0,none⟩) (L.length+1) cap) (L++[y]):=by
 have hy':OwnN w' base y.2 y.1.l:=ownKeep' hy (fun k hk'=>hk k (World.ownsRow.lt hy _ hk').2 (hyv k hk'))
 refine ⟨by rw [flatR_app,List.length_append];exact q1,fun i x hx=>?_,fun i j x z k hx hz hne=>?_⟩
 ·by_cases hi:i < L.length
  ·rw [List.getElem?_append_left hi] at hx
   exact ownKeep' (h.inn i x hx) (fun k hk'=>hk k (World.ownsRow.lt (h.inn i x hx) _ hk').2 (ownType' (h.inn i x hx) h.row he hk'))
  ·rw [List.getElem?_append_right (by omega)] at hx
   have hi0:i - L.length=0:=by have:=(List.getElem?_eq_some_iff.1 hx).1;simp at this;omega
   rw [hi0] at hx
   simp at hx
   subst hx
   exact hy'
 ·by_cases hi:i < L.length<;>by_cases hj:j < L.length
  ·rw [List.getElem?_append_left hi] at hx
   rw [List.getElem?_append_left hj] at hz
   exact h.sep i j x z k hx hz hne
  ·rw [List.getElem?_append_left hi] at hx
   rw [List.getElem?_append_right (by omega)] at hz
   have hj0:j - L.length=0:=by have:=(List.getElem?_eq_some_iff.1 hz).1;simp at this;omega
   rw [hj0] at hz
   simp at hz
   subst hz
   intro a b
   exact hs i x k hx b a
  ·rw [List.getElem?_append_left hj] at hz
   rw [List.getElem?_append_right (by omega)] at hx
   have hi0:i - L.length=0:=by have:=(List.getElem?_eq_some_iff.1 hx).1;simp at this;omega
   rw [hi0] at hx
   simp at hx
   subst hx
   exact hs j z k hz
  ·have a:=(List.getElem?_eq_some_iff.1 hx).1
   have b:=(List.getElem?_eq_some_iff.1 hz).1
   simp at a b
   omega
theorem new3 (w:World) (a b c:Value) (e:TypeId):∀ j v,[a,b,c][j]? =some v→(w.alloc (.cells #[a,b,c] e)).cell? (Addr.add ⟨w.heap.size,0,none⟩ j)=some v:=by
 intro j v h
 match j,h with
 | 0,h=>simpa [Addr.add,go_sem] using h
 | 1,h=>simpa [Addr.add,go_sem] using h
 | 2,h=>simpa [Addr.add,go_sem] using h
 | j+3,h=>simp at h
theorem infoT:∃ i,Tryz.prog.info? 49=some i∧i.zero=some (.agg #[.int .i64 0,.slice none 0 0,.int .i64 0])∧i.size=3∧i.bytes=40:=⟨_,rfl,rfl,rfl,rfl⟩
theorem infoC:∃ i,Tryz.prog.info? 65=some i∧i.zero=some (.agg #[.int .i64 0,.slice none 0 0,.bool false])∧i.size=3∧i.bytes=40:=⟨_,rfl,rfl,rfl,rfl⟩
/- what an append leaves -/
structure Pushed (w w':World) (base:Nat) (e:TypeId) (v:Value) (L:List (Rec×Value)) (y:Rec×Value) (g cap:Nat):Prop where
 own:OwnQ w' base e (.slice (some ⟨g,0,none⟩) (L.length+1) cap) (L++[y])
 far:∀ k,k < w.heap.size→v.ownBlock≠some k→w'.heap[k]? =w.heap[k]?
 low:Below base w w'
 blk:v.ownBlock=some g∨w.heap.size≤g
theorem app_thread {ops : Array Oper} {rest : List Oper} {o : Oper} {a : Act} {Q : Exit → Act → World → Prop} (hgd : o.guard = none) (s x : Operand) (ho : o.op = .call { callee := .builtin .append, args := #[s, x], argTypes := #[28, 28] })
  (w:World) (y1:Int) (l:List Int) (y2:Value) (y3:Int) (base:Nat) (v:Value) (L:List (Rec×Value)) (hs:a.eval s=v) (hown:OwnQ w base 49 v L) (hoy:OwnN w base y2 l) (hx:a.eval x=.slice (some ⟨w.heap.size,0,none⟩) 1 1) (hn:L.length≤1073741824) (hbase:base≤w.heap.size) (h1:y2.oneCell'=true)
  (hsep:∀ (i:Nat) (z:Rec×Value) (k:Nat),L[i]? =some z→y2.ownBlock=some k→z.2.ownBlock≠some k)
  (h:∀ g cap w',Pushed w w' base 49 v L (⟨.int .i64 y1,l,.int .i64 y3⟩,y2) g cap→wpList Tryz.prog ops Q rest (a.put o.dst (.slice (some ⟨g,0,none⟩) (L.length+1) cap)) w'):
  wpList Tryz.prog ops Q (o::rest) a (w.alloc (.cells #[.int .i64 y1,y2,.int .i64 y3] 49)):=by
 obtain ⟨i0,hi,hz0,hz1,hz2⟩:=infoT
 have h1':(w.alloc (.cells #[.int .i64 y1,y2,.int .i64 y3] 49)).ownsRow base 49 3 v L.length (flatR L):=ownKeep' hown.row (fun k hk=>Below.heap_alloc _ _ _ (World.ownsRow.lt hown.row _ hk).2)
 refine wpList_append_lies _ hgd s x 28 ho base 49 i0 _ 3 40 Tryz.underlying28 hi hz0 hz1 hz2 rfl (by decide) v L.length _ hs h1' ⟨w.heap.size,0,none⟩ 1 1 [.int .i64 y1,y2,.int .i64 y3] hx rfl (new3 w _ _ _ _) (fun u hu=>by simp at hu;rcases hu with rfl | rfl | rfl;rfl;exact h1;rfl) (by decide) (by unfold maxLen;omega) (by omega) (by simp;omega) _ rfl ?_
 intro g cap w' q1 q2 q3 q4
 have hb:Below base w w':=Below.grown (((Below.refl _ _).alloc hbase _)) q2 (by simp;omega) (fun j hj=>(World.ownsRow.lt h1' _ hj).1)
 have hf:∀ k,k < w.heap.size→v.ownBlock≠some k→w'.heap[k]? =w.heap[k]? :=fun k hk hne=>(q2.block k (by simp;omega) (fun e=>hne e.symm)).trans (Below.heap_alloc _ _ _ hk)
 exact h g cap w' ⟨OwnQ.push (y:=(⟨.int .i64 y1,l,.int .i64 y3⟩,y2)) (by decide) hown hoy (fun k hk=>ownType' hoy hown.row (by decide) hk) hsep q1 hf,hf,hb,by rcases q3 with q3 | q3;exact .inl q3;exact .inr (by rw [q3];simp)⟩
/- a box of three cells that may be written -/
structure BoF (G:Nat) (W:World) (a b c:Value):Prop where
 c0:W.cell? ⟨G,0,none⟩=some a
 c1:W.cell? ⟨G,1,none⟩=some b
 c2:W.cell? ⟨G,2,none⟩=some c
 f:∀ j,W.frozen? ⟨G,j,none⟩=false
 z:G < W.heap.size
theorem BoF.new (w:World) (a b c:Value) (T:TypeId):∃ W,w.alloc (.cells #[a,b,c] T)=W∧BoF w.heap.size W a b c∧Below w.heap.size w W∧W.heap.size=w.heap.size+1:=
 ⟨_,rfl,⟨by simp [go_sem],by simp [go_sem],by simp [go_sem],fun j=>by simp [go_sem],by simp⟩,(Below.refl _ _).alloc (Nat.le_refl _) _,by simp⟩
theorem BoF.keep {G:Nat} {W w1:World} {a b c:Value} (h:BoF G W a b c) (hb:w1.heap[G]? =W.heap[G]?) (hs:W.heap.size≤w1.heap.size):BoF G w1 a b c:=
 ⟨(World.cell?_of_block (w:=W) (a:=⟨G,0,none⟩) hb).trans h.c0,(World.cell?_of_block (w:=W) (a:=⟨G,1,none⟩) hb).trans h.c1,(World.cell?_of_block (w:=W) (a:=⟨G,2,none⟩) hb).trans h.c2,fun j=>(World.frozen?_of_block (w:=W) (a:=⟨G,j,none⟩) hb).trans (h.f j),by have:=h.z;omega⟩
theorem BoF.below {G B:Nat} {W w1:World} {a b c:Value} (h:BoF G W a b c) (hb:Below B W w1) (hG:G < B):BoF G w1 a b c:=h.keep (hb.block G hG) hb.size
theorem BoF.set0 {G:Nat} {W:World} {a b c:Value} (h:BoF G W a b c) (v:Value):BoF G (W.setCell ⟨G,0,none⟩ v) v b c:=
 ⟨setC_at (by rw [h.c0];rfl),(setC_off (by omega)).trans h.c1,(setC_off (by omega)).trans h.c2,fun j=>by rw [World.frozen?_setCell];exact h.f j,by simpa using h.z⟩
theorem BoF.set1 {G:Nat} {W:World} {a b c:Value} (h:BoF G W a b c) (v:Value):BoF G (W.setCell ⟨G,1,none⟩ v) a v c:=
 ⟨(setC_off (by omega)).trans h.c0,setC_at (by rw [h.c1];rfl),(setC_off (by omega)).trans h.c2,fun j=>by rw [World.frozen?_setCell];exact h.f j,by simpa using h.z⟩
theorem BoF.set2 {G:Nat} {W:World} {a b c:Value} (h:BoF G W a b c) (v:Value):BoF G (W.setCell ⟨G,2,none⟩ v) a b v:=
 ⟨(setC_off (by omega)).trans h.c0,(setC_off (by omega)).trans h.c1,setC_at (by rw [h.c2];rfl),fun j=>by rw [World.frozen?_setCell];exact h.f j,by simpa using h.z⟩
theorem step_thread {ops : Array Oper} {o : Oper} {a : Act} {K : Act → World → Prop} {Q : Exit → Act → World → Prop} {E : Prop} (hgd : o.guard = none) (s x : Operand) (ho : o.op = .call { callee := .builtin .append, args := #[s, x], argTypes := #[28, 28] })
  (w:World) (y1:Int) (l:List Int) (y2:Value) (y3:Int) (base:Nat) (v:Value) (L:List (Rec×Value)) (hs:a.eval s=v) (hown:OwnQ w base 49 v L) (hoy:OwnN w base y2 l) (hx:a.eval x=.slice (some ⟨w.heap.size,0,none⟩) 1 1) (hn:L.length≤1073741824) (hbase:base≤w.heap.size) (h1:y2.oneCell'=true)
  (hsep:∀ (i:Nat) (z:Rec×Value) (k:Nat),L[i]? =some z→y2.ownBlock=some k→z.2.ownBlock≠some k)
  (h:∀ g cap w',Pushed w w' base 49 v L (⟨.int .i64 y1,l,.int .i64 y3⟩,y2) g cap→K (a.put o.dst (.slice (some ⟨g,0,none⟩) (L.length+1) cap)) w'):
  if Region.wanted o (yielded ops a.tmps)=true then Oper.wp Tryz.prog o a (w.alloc (.cells #[.int .i64 y1,y2,.int .i64 y3] 49)) K Q else E:=by
 obtain ⟨i0,hi,hz0,hz1,hz2⟩:=infoT
 have h1':(w.alloc (.cells #[.int .i64 y1,y2,.int .i64 y3] 49)).ownsRow base 49 3 v L.length (flatR L):=ownKeep' hown.row (fun k hk=>Below.heap_alloc _ _ _ (World.ownsRow.lt hown.row _ hk).2)
 refine step_append_lies _ hgd s x 28 ho base 49 i0 _ 3 40 Tryz.underlying28 hi hz0 hz1 hz2 rfl (by decide) v L.length _ hs h1' ⟨w.heap.size,0,none⟩ 1 1 [.int .i64 y1,y2,.int .i64 y3] hx rfl (new3 w _ _ _ _) (fun u hu=>by simp at hu;rcases hu with rfl | rfl | rfl;rfl;exact h1;rfl) (by decide) (by unfold maxLen;omega) (by omega) (by simp;omega) _ rfl ?_
 intro g cap w' q1 q2 q3 q4
 have hb:Below base w w':=Below.grown (((Below.refl _ _).alloc hbase _)) q2 (by simp;omega) (fun j hj=>(World.ownsRow.lt h1' _ hj).1)
 have hf:∀ k,k < w.heap.size→v.ownBlock≠some k→w'.heap[k]? =w.heap[k]? :=fun k hk hne=>(q2.block k (by simp;omega) (fun e=>hne e.symm)).trans (Below.heap_alloc _ _ _ hk)
 exact h g cap w' ⟨OwnQ.push (y:=(⟨.int .i64 y1,l,.int .i64 y3⟩,y2)) (by decide) hown hoy (fun k hk=>ownType' hoy hown.row (by decide) hk) hsep q1 hf,hf,hb,by rcases q3 with q3 | q3;exact .inl q3;exact .inr (by rw [q3];simp)⟩
theorem step_chan {ops : Array Oper} {o : Oper} {a : Act} {K : Act → World → Prop} {Q : Exit → Act → World → Prop} {E : Prop} (hgd : o.guard = none) (s x : Operand) (ho : o.op = .call { callee := .builtin .append, args := #[s, x], argTypes := #[29, 29] })
  (w:World) (y1:Int) (l:List Int) (y2:Value) (y3:Bool) (base:Nat) (v:Value) (L:List (Rec×Value)) (hs:a.eval s=v) (hown:OwnQ w base 65 v L) (hoy:OwnN w base y2 l) (hx:a.eval x=.slice (some ⟨w.heap.size,0,none⟩) 1 1) (hn:L.length≤1073741824) (hbase:base≤w.heap.size) (h1:y2.oneCell'=true)
  (hsep:∀ (i:Nat) (z:Rec×Value) (k:Nat),L[i]? =some z→y2.ownBlock=some k→z.2.ownBlock≠some k)
  (h:∀ g cap w',Pushed w w' base 65 v L (⟨.int .i64 y1,l,.bool y3⟩,y2) g cap→K (a.put o.dst (.slice (some ⟨g,0,none⟩) (L.length+1) cap)) w'):
  if Region.wanted o (yielded ops a.tmps)=true then Oper.wp Tryz.prog o a (w.alloc (.cells #[.int .i64 y1,y2,.bool y3] 65)) K Q else E:=by
 obtain ⟨i0,hi,hz0,hz1,hz2⟩:=infoC
 have h1':(w.alloc (.cells #[.int .i64 y1,y2,.bool y3] 65)).ownsRow base 65 3 v L.length (flatR L):=ownKeep' hown.row (fun k hk=>Below.heap_alloc _ _ _ (World.ownsRow.lt hown.row _ hk).2)
 refine step_append_lies _ hgd s x 29 ho base 65 i0 _ 3 40 Tryz.underlying29 hi hz0 hz1 hz2 rfl (by decide) v L.length _ hs h1' ⟨w.heap.size,0,none⟩ 1 1 [.int .i64 y1,y2,.bool y3] hx rfl (new3 w _ _ _ _) (fun u hu=>by simp at hu;rcases hu with rfl | rfl | rfl;rfl;exact h1;rfl) (by decide) (by unfold maxLen;omega) (by omega) (by simp;omega) _ rfl ?_
 intro g cap w' q1 q2 q3 q4
 have hb:Below base w w':=Below.grown (((Below.refl _ _).alloc hbase _)) q2 (by simp;omega) (fun j hj=>(World.ownsRow.lt h1' _ hj).1)
 have hf:∀ k,k < w.heap.size→v.ownBlock≠some k→w'.heap[k]? =w.heap[k]? :=fun k hk hne=>(q2.block k (by simp;omega) (fun e=>hne e.symm)).trans (Below.heap_alloc _ _ _ hk)
 exact h g cap w' ⟨OwnQ.push (y:=(⟨.int .i64 y1,l,.bool y3⟩,y2)) (by decide) hown hoy (fun k hk=>ownType' hoy hown.row (by decide) hk) hsep q1 hf,hf,hb,by rcases q3 with q3 | q3;exact .inl q3;exact .inr (by rw [q3];simp)⟩
end
section
set_option linter.unusedSimpArgs false
set_option linter.unusedVariables false
set_option maxRecDepth 100000
namespace Plain
def insB (op r a b n pl ch:Int):Bool:=
 decide (0≤r∧r≤3∧0≤a∧a≤3∧0≤b∧b≤3∧0≤ch∧ch≤3∧
  ((op=1∧ -1000000000≤n∧n≤1000000000∧a=0∧b=0)
   ∨((op=2∨op=3∨op=4)∧n=0)
   ∨(op=5∧0≤n∧n < ch∧r=0∧b=0)
   ∨((op=6∨op=8)∧0≤n∧n < ch∧a=0∧r≠b)
   ∨(op=7∧0≤n∧n < ch∧b=0)
   ∨(op=9∧0≤n∧n < ch∧r=0∧a=0∧b=0)
   ∨(op=10∧r=0∧b=0∧n=0)
   ∨(op=11∧0≤n∧n < pl∧r=0∧a=0∧b=0)
   ∨(op=12∧0≤n∧n < pl∧r=0∧b=0)
   ∨(op=13∧r=0∧a=0∧b=0∧n=0)))
def regB (r:Int):Bool:=decide (0≤r∧r≤3)
def numB (n:Int):Bool:=decide (-1000000000≤n∧n≤1000000000)
def oneB (n c:Int):Bool:=decide (0≤n∧n < c)
def chansB (c:Int):Bool:=decide (0≤c∧c≤3)
def inB (x lo hi:Int):Bool:=decide (lo≤x∧x≤hi)
def areB (r a b:Int):Bool:=regB r&&regB a&&regB b
def takesB (r b:Int):Bool:=regB r&&regB b&&(r !=b)
end Plain
end
end Go.Proofs.YtknffngbdakblaaGreat
