/- Rows of integers that a call has made: kept, copied, written over, looked at again; boxes; what a call that writes over a row leaves. Conditions: at most 2^20 + 1 integers. Memories as they lie: cells, each a row of writes, each write with its view; read, and owned with the places of their integers. No condition. How the laws copy memories into new memory. Conditions: they are counted. Rows of notes as they lie in memory, and how the laws count, copy and compare them. Conditions: each list of at most 1048576. -/
import Derived.Test.YtepfpbcjklaenaaGreatJG00
import Derived.Test.YtepfpbcjklaenaaGreatJG01
import Derived.Deep.RegionWith
namespace Go.Proofs.YtepfpbcjklaenaaGreat
section
set_option linter.unusedSimpArgs false
set_option linter.unusedVariables false
set_option maxRecDepth 100000
open Go.RowKit
theorem ownKeep' {w w':World} {base:Nat} {e:TypeId} {size n:Nat} {v:Value} {xs:List Value} (h:w.ownsRow base e size v n xs) (hb:∀ k,v.ownBlock=some k→w'.heap[k]? =w.heap[k]?):w'.ownsRow base e size v n xs:=by
 obtain ⟨h1,h2⟩:=h
 refine ⟨h1,?_⟩
 rcases h2 with h2 | ⟨g,cap,cur,rfl,b0,c,d⟩
 ·exact .inl h2
 ·exact .inr ⟨g,cap,cur,rfl,b0,(hb g rfl).trans c,d⟩
theorem ownLow' {w:World} {b b':Nat} {e:TypeId} {size n:Nat} {v:Value} {xs:List Value} (h:w.ownsRow b e size v n xs) (hb:b'≤b):w.ownsRow b' e size v n xs:=by
 obtain ⟨h1,h2⟩:=h
 refine ⟨h1,?_⟩
 rcases h2 with h2 | ⟨g,cap,cur,a,b0,c,d⟩
 ·exact .inl h2
 ·exact .inr ⟨g,cap,cur,a,Nat.le_trans hb b0,c,d⟩
theorem ownType' {w:World} {base base':Nat} {e e':TypeId} {size size' n n':Nat} {v v':Value} {xs xs':List Value} (h:w.ownsRow base e size v n xs) (h':w.ownsRow base' e' size' v' n' xs') (hne:e≠e') {k:Nat} (hk:v.ownBlock=some k):v'.ownBlock≠some k:=by
 intro hk'
 rcases h.2 with ⟨rfl,-⟩ | ⟨g,cap,cur,rfl,-,c,-⟩
 ·cases hk
 rcases h'.2 with ⟨rfl,-⟩ | ⟨g',cap',cur',rfl,-,c',-⟩
 ·cases hk'
 ·simp only [Value.ownBlock,Option.some.injEq] at hk hk'
  subst hk
  subst hk'
  rw [c] at c'
  injection c' with c'
  injection c' with c1 c2
  exact hne c2
theorem ownSl {w:World} {base:Nat} {e:TypeId} {size n:Nat} {v:Value} {xs:List Value} (h:w.ownsRow base e size v n xs):∃ s c,v=.slice s n c:=by
 rcases h.2 with ⟨h1,h2⟩ | ⟨g,cap,cur,a,-⟩
 ·exact ⟨none,0,by rw [h1,h2]⟩
 ·exact ⟨_,_,a⟩
theorem ownN_ints {w:World} {base:Nat} {v:Value} {l:List Int} (h:OwnN w base v l):∃ s c,v=.slice s l.length c∧IntsR w base w.heap.size s l:=by
 rcases Nat.eq_zero_or_pos l.length with h0 | hpos
 ·obtain ⟨s,c,e⟩:=ownSl h
  exact ⟨s,c,e,.inl (List.length_eq_zero_iff.1 h0)⟩
 ·obtain ⟨g,cap,rfl,-⟩:=World.ownsRow.form h hpos
  have hlt:=World.ownsRow.lt h g rfl
  refine ⟨_,_,rfl,.inr ⟨g,0,rfl,hlt.1,hlt.2,fun i hi=>?_⟩⟩
  rw [Nat.zero_add,World.ownsRow.cellAt h i (by omega),List.getElem?_map,List.getD_eq_getElem?_getD,List.getElem?_eq_getElem hi]
  rfl
theorem setApp {α:Type} (b:List α) (i:Nat) (x:α):∀ a:List α,(a++b).set (a.length+i) x=a++b.set i x
 | []=>by simp
 | y::r=>by
  have e:(y::r).length+i=(r.length+i)+1:=by simp;omega
  rw [e]
  simp [setApp b i x r]
set_option maxHeartbeats 1000000 in
theorem toIntS_own (s : Option Addr) (c lo hi : Nat) (l : List Int) (w : World) (h : IntsR w lo hi s l) (hB : hi ≤ w.heap.size) (hl : l.length ≤ 1048576) :
  Calls Tryz.prog 85 #[.slice s l.length c] w fun e w'=>e=.returned (.slice (some ⟨w.heap.size,0,none⟩) l.length l.length)∧OwnN w' w.heap.size (.slice (some ⟨w.heap.size,0,none⟩) l.length l.length) l∧Below w.heap.size w w'∧w.heap.size < w'.heap.size:=by
 have hmk:=mkInt l.length hl
 have HC:Hid (IntsR w lo hi s l):=h
 clear h
 go_enter Tryz.func85,Tryz.ntmps85
 go_wp2
 clear hmk
 go_loopw [4] (fun i wr=>∃ k:Nat,k≤l.length∧i=.int .i64 k∧Below w.heap.size w wr∧w.heap.size < wr.heap.size∧wr.ownsRow w.heap.size 3 1 (.slice (some ⟨w.heap.size,0,none⟩) l.length l.length) l.length ((l.take k++List.replicate (l.length - k) 0).map (Value.int .i64))) (fun i _=>l.length - (intOf i).toNat)
 case atStart=>
  refine ⟨0,Nat.zero_le _,rfl,(Below.refl _ _).alloc (Nat.le_refl _) _,by simp,?_⟩
  have h0:=World.ownsRow_lit (base:=w.heap.size) (e:=3) (size:=1) w (madeCells #[.int .i64 0] (l.length * 1)) l.length (Nat.le_refl _) (by unfold maxLen;omega) (size_madeCells _ _)
  rw [toList_madeCells_one] at h0
  simpa using h0
 case round=>
  obtain ⟨k,hk,rfl,hb,hsz,ho⟩:=hrel
  have HB:Hid (Below w.heap.size w wr):=hb
  have HO:=(show Hid _ from ho)
  clear hb ho
  by_cases hlt:k < l.length
  ·obtain ⟨g,off,hs,hg,hc⟩:∃ g off,s=some ⟨g,off,none⟩∧g < w.heap.size∧w.cell? ⟨g,off+k,none⟩=some (.int .i64 (l.getD k 0)):=by
    rcases HC.out with h | ⟨g,off,a,b,d,e⟩
    ·rw [h] at hlt;simp at hlt
    ·exact ⟨g,off,a,by omega,e k hlt⟩
   subst hs
   have f0:=(HB.out.cell (p:=⟨g,off+k,none⟩) hg).trans hc
   generalize hx:l.getD k 0=x at f0
   have HX:Hid (l.getD k 0=x):=hx
   clear hx hc
   obtain ⟨u,hu⟩:∃ u,wr.cell? ⟨w.heap.size,k,none⟩=some u:=by
    rw [World.ownsRow.cellAt HO.out k (by omega)]
    exact ⟨_,List.getElem?_eq_getElem (by simp;omega)⟩
   have hz:wr.frozen? ⟨w.heap.size,k,none⟩=false:=World.ownsRow.frozenAt HO.out k
   have b0:(0:Int)≤(k:Int):=by omega
   have b1:(k:Int) < (l.length:Int):=by omega
   go_wp2
   go_roundw
   case rel=>
    refine ⟨k+1,by omega,by go_num,HB.out.setCell (p:=⟨w.heap.size,k,none⟩) (Nat.le_refl _) _,by simpa using hsz,?_⟩
    have p:=(World.ownsRow.stored HO.out k (.int .i64 x)).1
    have e1:((l.take k++List.replicate (l.length - k) 0).map (Value.int .i64)).set k (.int .i64 x)=(l.take (k+1)++List.replicate (l.length - (k+1)) 0).map (Value.int .i64):=by
     have e2:=setApp (List.replicate (l.length - k) (0:Int)) 0 x (l.take k)
     rw [List.length_take,Nat.min_eq_left (by omega),Nat.add_zero] at e2
     have e3:l.length - k=(l.length - (k+1))+1:=by omega
     have e4:l.take (k+1)=l.take k++[x]:=by
      rw [List.take_add_one,List.getElem?_eq_getElem hlt,← HX.out,List.getD_eq_getElem?_getD,List.getElem?_eq_getElem hlt];rfl
     rw [← List.map_set,e2,e3,List.replicate_succ,List.set_cons_zero,e4,List.append_assoc]
     rfl
    rw [e1] at p
    exact p
   case measure=>simp [intOf];omega
  ·go_wp2
   go_ret
   have:k=l.length:=by omega
   subst this
   have h1:=HO.out
   simp only [List.take_length,Nat.sub_self,List.replicate_zero,List.append_nil] at h1
   exact ⟨rfl,h1,HB.out,hsz⟩
/- blocks below hi and not from lo on are as they were -/
structure Exc (lo hi:Nat) (w w':World):Prop where
 os:w'.os=w.os
 tape:w'.tape=w.tape
 out:w'.output=w.output
 size:w.heap.size≤w'.heap.size
 blk:∀ k,k < w.heap.size→(k < lo∨hi≤k)→w'.heap[k]? =w.heap[k]?
theorem Exc.below {lo hi B:Nat} {w w':World} (h:Exc lo hi w w') (h1:B≤lo) (h2:B≤w.heap.size):Below B w w':=⟨h.os,h.tape,h.out,h.size,fun k hk=>h.blk k (by omega) (.inl (by omega))⟩
theorem Keep.of_exc {lo hi lo' hi':Nat} {w w':World} (h:Exc lo' hi' w w') (h1:hi≤w.heap.size) (h2:hi≤lo'∨hi'≤lo):Keep lo hi w w':=fun k a b=>h.blk k (by omega) (by omega)
theorem eqN_true {lo hi lo' hi' : Nat} {s s' : Option Addr} (c c' : Nat) {l : List Int} {w : World} (h : IntsR w lo hi s l) (h' : IntsR w lo' hi' s' l) (hB : hi ≤ w.heap.size) (hB' : hi' ≤ w.heap.size) (hl : l.length ≤ 1048577) :
  Calls Tryz.prog 11 #[.slice s l.length c,.slice s' l.length c'] w fun e w'=>e=.returned (.bool true)∧Below w.heap.size w w':=by
 refine (eqIntS_any s s' l l c c' w (h.ints hB) (h'.ints hB') (by omega)).mono ?_
 rintro e w' ⟨rfl,n,rfl⟩
 exact ⟨by simp,rfl,rfl,rfl,Nat.le_refl _,fun _ _=>rfl⟩
theorem ownN_intsR {w:World} {base g c:Nat} {l:List Int} (h:OwnN w base (.slice (some ⟨g,0,none⟩) l.length c) l):IntsR w base w.heap.size (some ⟨g,0,none⟩) l:=by
 obtain ⟨s,c',e,hi⟩:=ownN_ints h
 injection e with e1 e2 e3
 rw [e1]
 exact hi
theorem below_drewN (w:World) (n:Nat):Below w.heap.size w (w.drewN n):=⟨rfl,rfl,rfl,Nat.le_refl _,fun _ _=>rfl⟩
structure Bo1 (G:Nat) (W:World) (a:Value):Prop where
 c0:W.cell? ⟨G,0,none⟩=some a
theorem Bo1.new (w:World) (a:Value) (T:TypeId):∃ W,w.alloc (.cells #[a] T)=W∧Bo1 w.heap.size W a∧Below w.heap.size w W∧W.heap.size=w.heap.size+1:=
 ⟨_,rfl,⟨by simp [go_sem]⟩,(Below.refl _ _).alloc (Nat.le_refl _) _,by simp⟩
end
section
set_option linter.unusedSimpArgs false
set_option linter.unusedVariables false
set_option maxRecDepth 100000
open Go.RowKit
structure WD where
 v:Int
 vw:List Int
def WR (w:World) (lo hi g off:Nat) (x:WD):Prop:=
 ∃ s c,w.cell? ⟨g,off,none⟩=some (.int .i64 x.v)∧w.cell? ⟨g,off+1,none⟩=some (.slice s x.vw.length c)∧IntsR w lo hi s x.vw
def WsR (w:World) (lo hi:Nat) (s:Option Addr) (l:List WD):Prop:=
 l=[]∨∃ g off,s=some ⟨g,off,none⟩∧lo≤g∧g < hi∧∀ (i:Nat) (x:WD),l[i]? =some x→WR w lo hi g (off+i * 2) x
def RwR (w:World) (lo hi g off:Nat) (l:List WD):Prop:=∃ s c,w.cell? ⟨g,off,none⟩=some (.slice s l.length c)∧WsR w lo hi s l
def MemR (w:World) (lo hi:Nat) (s:Option Addr) (m:List (List WD)):Prop:=
 m=[]∨∃ g off,s=some ⟨g,off,none⟩∧lo≤g∧g < hi∧∀ (i:Nat) (l:List WD),m[i]? =some l→RwR w lo hi g (off+i) l
theorem WR.keep {w w':World} {lo hi g off:Nat} {x:WD} (h:WR w lo hi g off x) (hb:Keep lo hi w w') (hc:∀ j,w'.cell? ⟨g,j,none⟩=w.cell? ⟨g,j,none⟩):WR w' lo hi g off x:=by
 obtain ⟨s,c,h1,h2,h3⟩:=h
 exact ⟨s,c,(hc _).trans h1,(hc _).trans h2,h3.keep hb⟩
theorem WsR.keep {w w':World} {lo hi:Nat} {s:Option Addr} {l:List WD} (h:WsR w lo hi s l) (hb:Keep lo hi w w'):WsR w' lo hi s l:=by
 rcases h with h | ⟨g,o,hs,h1,h2,hc⟩
 ·exact .inl h
 ·exact .inr ⟨g,o,hs,h1,h2,fun i r hi=>(hc i r hi).keep hb (fun j=>hb.cell h1 h2)⟩
theorem RwR.keep {w w':World} {lo hi g off:Nat} {l:List WD} (h:RwR w lo hi g off l) (hb:Keep lo hi w w') (hc:∀ j,w'.cell? ⟨g,j,none⟩=w.cell? ⟨g,j,none⟩):RwR w' lo hi g off l:=by
 obtain ⟨s,c,h1,h2⟩:=h
 exact ⟨s,c,(hc _).trans h1,h2.keep hb⟩
theorem MemR.keep {w w':World} {lo hi:Nat} {s:Option Addr} {m:List (List WD)} (h:MemR w lo hi s m) (hb:Keep lo hi w w'):MemR w' lo hi s m:=by
 rcases h with h | ⟨g,o,hs,h1,h2,hc⟩
 ·exact .inl h
 ·exact .inr ⟨g,o,hs,h1,h2,fun i r hi=>(hc i r hi).keep hb (fun j=>hb.cell h1 h2)⟩
theorem WR.mono {w:World} {lo hi lo' hi' g off:Nat} {x:WD} (h:WR w lo hi g off x) (h1:lo'≤lo) (h2:hi≤hi'):WR w lo' hi' g off x:=by
 obtain ⟨s,c,a,b,d⟩:=h
 exact ⟨s,c,a,b,d.mono h1 h2⟩
theorem WsR.mono {w:World} {lo hi lo' hi':Nat} {s:Option Addr} {l:List WD} (h:WsR w lo hi s l) (h1:lo'≤lo) (h2:hi≤hi'):WsR w lo' hi' s l:=by
 rcases h with h | ⟨g,o,hs,a,b,hc⟩
 ·exact .inl h
 ·exact .inr ⟨g,o,hs,by omega,by omega,fun i r hi=>(hc i r hi).mono h1 h2⟩
theorem MemR.row {w:World} {lo hi:Nat} {s:Option Addr} {m:List (List WD)} (h:MemR w lo hi s m) {i:Nat} {l:List WD} (hi':m[i]? =some l):∃ g off s' c',s=some ⟨g,off,none⟩∧lo≤g∧g < hi∧w.cell? ⟨g,off+i,none⟩=some (.slice s' l.length c')∧WsR w lo hi s' l:=by
 rcases h with rfl | ⟨g,o,hs,a,b,hc⟩
 ·simp at hi'
 ·obtain ⟨s',c',e1,e2⟩:=hc i l hi'
  exact ⟨g,o,s',c',hs,a,b,e1,e2⟩
theorem WsR.at {w:World} {lo hi:Nat} {s:Option Addr} {l:List WD} (h:WsR w lo hi s l) {i:Nat} {x:WD} (hi':l[i]? =some x):∃ g off s' c',s=some ⟨g,off,none⟩∧lo≤g∧g < hi∧w.cell? ⟨g,off+i * 2,none⟩=some (.int .i64 x.v)∧w.cell? ⟨g,off+i * 2+1,none⟩=some (.slice s' x.vw.length c')∧IntsR w lo hi s' x.vw:=by
 rcases h with rfl | ⟨g,o,hs,a,b,hc⟩
 ·simp at hi'
 ·obtain ⟨s',c',e1,e2,e3⟩:=hc i x hi'
  exact ⟨g,o,s',c',hs,a,b,e1,e2,e3⟩
/- lengths: those of arguments, and those that are counted -/
structure MLens (m:List (List WD)):Prop where
 n:m.length≤maxLen
 r:∀ (i:Nat) (l:List WD),m[i]? =some l→l.length≤maxLen
 v:∀ (i:Nat) (l:List WD) (k:Nat) (x:WD),m[i]? =some l→l[k]? =some x→x.vw.length≤maxLen
def szV:List WD→Nat
 | []=>0
 | x::r=>x.vw.length+szV r
def szR:List (List WD)→Nat
 | []=>0
 | l::r=>l.length+szV l+szR r
def MFits (m:List (List WD)):Prop:=m.length+szR m≤1048576
theorem szV_take:∀ (l:List WD) (k:Nat) (x:WD),l[k]? =some x→szV (l.take (k+1))=szV (l.take k)+x.vw.length
 | [],k,x,h=>by simp at h
 | y::r,0,x,h=>by simp at h;subst h;simp [szV]
 | y::r,k+1,x,h=>by
  have:=szV_take r k x (by simpa using h)
  simp [szV,this]
  omega
theorem szR_take:∀ (m:List (List WD)) (k:Nat) (l:List WD),m[k]? =some l→szR (m.take (k+1))=szR (m.take k)+(l.length+szV l)
 | [],k,x,h=>by simp at h
 | y::r,0,x,h=>by simp at h;subst h;simp [szR]
 | y::r,k+1,x,h=>by
  have:=szR_take r k x (by simpa using h)
  simp [szR,this]
  omega
theorem szV_at:∀ (l:List WD) (k:Nat) (x:WD),l[k]? =some x→x.vw.length≤szV l
 | [],k,x,h=>by simp at h
 | y::r,0,x,h=>by simp at h;subst h;simp [szV]
 | y::r,k+1,x,h=>by
  have:=szV_at r k x (by simpa using h)
  simp [szV]
  omega
theorem szR_at:∀ (m:List (List WD)) (k:Nat) (l:List WD),m[k]? =some l→l.length+szV l≤szR m
 | [],k,x,h=>by simp at h
 | y::r,0,x,h=>by simp at h;subst h;simp [szR]
 | y::r,k+1,x,h=>by
  have:=szR_at r k x (by simpa using h)
  simp [szR]
  omega
theorem MFits.n {m:List (List WD)} (h:MFits m):m.length≤1048576:=by unfold MFits at h;omega
theorem MFits.r {m:List (List WD)} (h:MFits m) {i:Nat} {l:List WD} (hi:m[i]? =some l):l.length+szV l≤1048576:=by have:=szR_at m i l hi;unfold MFits at h;omega
/- the places of a memory's integers, in the order in which they are written over -/
structure VS where
 s:Option Addr
 n:Nat
 c:Nat
structure RS where
 s:Option Addr
 c:Nat
 vs:List VS
def adr:Option Addr→Nat→Addr
 | some a,i=>⟨a.block,a.off+i,none⟩
 | none,_=>⟨0,0,none⟩
def vAs (x:VS):List Addr:=(List.range x.n).map (adr x.s)
def rAs (s:Option Addr):List VS→Nat→List Addr
 | [],_=>[]
 | x::r,k=>adr s (k * 2)::(vAs x++rAs s r (k+1))
def mAs:List RS→List Addr
 | []=>[]
 | r::t=>rAs r.s r.vs 0++mAs t
theorem rAs_app (s:Option Addr) (x:VS):∀ (vs:List VS) (k:Nat),rAs s (vs++[x]) k=rAs s vs k++adr s ((k+vs.length) * 2)::vAs x
 | [],k=>by simp [rAs]
 | y::r,k=>by
  have h:=rAs_app s x r (k+1)
  have e:k+1+r.length=k+(r.length+1):=by omega
  simp [rAs,h,e]
theorem mAs_app (x:RS):∀ (S:List RS),mAs (S++[x])=mAs S++rAs x.s x.vs 0
 | []=>by simp [mAs]
 | r::t=>by simp [mAs,mAs_app x t]
theorem mem_vAs {x:VS} {a:Addr}:a∈vAs x↔∃ i,i < x.n∧a=adr x.s i:=by
 simp [vAs]
 constructor
 ·rintro ⟨i,h,rfl⟩;exact ⟨i,h,rfl⟩
 ·rintro ⟨i,h,rfl⟩;exact ⟨i,h,rfl⟩
theorem mem_rAs {s:Option Addr} {a:Addr}:∀ {vs:List VS} {k:Nat},a∈rAs s vs k↔(∃ i,i < vs.length∧a=adr s ((k+i) * 2))∨∃ x∈vs,a∈vAs x
 | [],k=>by simp [rAs]
 | y::r,k=>by
  simp only [rAs,List.mem_cons,List.mem_append,mem_rAs (vs:=r) (k:=k+1)]
  constructor
  ·rintro (h | h | ⟨i,h,e⟩ | ⟨x,h,e⟩)
   ·exact .inl ⟨0,by simp,by simpa using h⟩
   ·exact .inr ⟨y,.inl rfl,h⟩
   ·exact .inl ⟨i+1,by simpa using h,by rw [e];congr 2;omega⟩
   ·exact .inr ⟨x,.inr h,e⟩
  ·rintro (⟨i,h,e⟩ | ⟨x,h | h,e⟩)
   ·rcases Nat.eq_zero_or_pos i with rfl | hp
    ·exact .inl (by simpa using e)
    ·refine .inr (.inr (.inl ⟨i - 1,by simp at h;omega,?_⟩))
     rw [e];congr 2;omega
   ·subst h;exact .inr (.inl e)
   ·exact .inr (.inr (.inr ⟨x,h,e⟩))
theorem mem_mAs {a:Addr}:∀ {S:List RS},a∈mAs S↔∃ r∈S,a∈rAs r.s r.vs 0
 | []=>by simp [mAs]
 | r::t=>by simp [mAs,mem_mAs (S:=t)]
theorem vAs_len (x:VS):(vAs x).length=x.n:=by simp [vAs]
theorem vAs_at {x:VS} {i:Nat} (h:i < x.n):(vAs x)[i]? =some (adr x.s i):=by simp [vAs,h]
theorem vAs_nodup {x:VS} {g o:Nat} (h:x.s=some ⟨g,o,none⟩):(vAs x).Nodup:=by
 unfold vAs
 rw [h]
 refine List.Pairwise.map _ (fun a b hab e=>?_) List.nodup_range
 simp [adr] at e
 exact hab e
/- owned: with the places -/
structure VO (w:World) (lo hi:Nat) (x:VS) (l:List Int):Prop where
 n:x.n=l.length
 c:l=[]∨∃ g o,x.s=some ⟨g,o,none⟩∧lo≤g∧g < hi∧∀ i,i < l.length→w.cell? ⟨g,o+i,none⟩=some (.int .i64 (l.getD i 0))∧w.frozen? ⟨g,o+i,none⟩=false
structure RO (w:World) (lo hi:Nat) (r:RS) (l:List WD):Prop where
 n:r.vs.length=l.length
 c:l=[]∨∃ g o,r.s=some ⟨g,o,none⟩∧lo≤g∧g < hi∧∀ (i:Nat) (x:VS) (y:WD),r.vs[i]? =some x→l[i]? =some y→w.cell? ⟨g,o+i * 2,none⟩=some (.int .i64 y.v)∧w.frozen? ⟨g,o+i * 2,none⟩=false∧w.cell? ⟨g,o+i * 2+1,none⟩=some (.slice x.s x.n x.c)
 v:∀ (i:Nat) (x:VS) (y:WD),r.vs[i]? =some x→l[i]? =some y→VO w lo hi x y.vw
 o:∀ x∈r.vs,∀ a∈vAs x,∀ g o,r.s=some ⟨g,o,none⟩→a.block≠g
 d:(rAs r.s r.vs 0).Nodup
structure MO (w:World) (lo hi:Nat) (so:Option Addr) (S:List RS) (m:List (List WD)):Prop where
 n:S.length=m.length
 c:m=[]∨∃ g o,so=some ⟨g,o,none⟩∧lo≤g∧g < hi∧∀ (i:Nat) (r:RS),S[i]? =some r→w.cell? ⟨g,o+i,none⟩=some (.slice r.s r.vs.length r.c)
 r:∀ (i:Nat) (r:RS) (l:List WD),S[i]? =some r→m[i]? =some l→RO w lo hi r l
 d:(mAs S).Nodup
theorem Keep.frozen {lo hi:Nat} {w w':World} (h:Keep lo hi w w') {p:Addr} (h1:lo≤p.block) (h2:p.block < hi):w'.frozen? p=w.frozen? p:=World.frozen?_of_block (w:=w) (h p.block h1 h2)
theorem VO.keep {w w':World} {lo hi:Nat} {x:VS} {l:List Int} (h:VO w lo hi x l) (hb:Keep lo hi w w'):VO w' lo hi x l:=by
 refine ⟨h.n,?_⟩
 rcases h.c with h | ⟨g,o,hs,h1,h2,hc⟩
 ·exact .inl h
 ·exact .inr ⟨g,o,hs,h1,h2,fun i hi=>⟨(hb.cell (p:=⟨g,o+i,none⟩) h1 h2).trans (hc i hi).1,(hb.frozen (p:=⟨g,o+i,none⟩) h1 h2).trans (hc i hi).2⟩⟩
theorem RO.keep {w w':World} {lo hi:Nat} {r:RS} {l:List WD} (h:RO w lo hi r l) (hb:Keep lo hi w w'):RO w' lo hi r l:=by
 refine ⟨h.n,?_,fun i x y hx hy=>(h.v i x y hx hy).keep hb,h.o,h.d⟩
 rcases h.c with h | ⟨g,o,hs,h1,h2,hc⟩
 ·exact .inl h
 ·refine .inr ⟨g,o,hs,h1,h2,fun i x y hx hy=>?_⟩
  obtain ⟨a,b,c⟩:=hc i x y hx hy
  exact ⟨(hb.cell (p:=⟨g,o+i * 2,none⟩) h1 h2).trans a,(hb.frozen (p:=⟨g,o+i * 2,none⟩) h1 h2).trans b,(hb.cell (p:=⟨g,o+i * 2+1,none⟩) h1 h2).trans c⟩
theorem MO.keep {w w':World} {lo hi:Nat} {so:Option Addr} {S:List RS} {m:List (List WD)} (h:MO w lo hi so S m) (hb:Keep lo hi w w'):MO w' lo hi so S m:=by
 refine ⟨h.n,?_,fun i r l hr hl=>(h.r i r l hr hl).keep hb,h.d⟩
 rcases h.c with h | ⟨g,o,hs,h1,h2,hc⟩
 ·exact .inl h
 ·exact .inr ⟨g,o,hs,h1,h2,fun i r hr=>(hb.cell (p:=⟨g,o+i,none⟩) h1 h2).trans (hc i r hr)⟩
theorem VO.mono {w:World} {lo hi lo' hi':Nat} {x:VS} {l:List Int} (h:VO w lo hi x l) (a:lo'≤lo) (b:hi≤hi'):VO w lo' hi' x l:=by
 refine ⟨h.n,?_⟩
 rcases h.c with h | ⟨g,o,hs,h1,h2,hc⟩
 ·exact .inl h
 ·exact .inr ⟨g,o,hs,by omega,by omega,hc⟩
theorem RO.mono {w:World} {lo hi lo' hi':Nat} {r:RS} {l:List WD} (h:RO w lo hi r l) (a:lo'≤lo) (b:hi≤hi'):RO w lo' hi' r l:=by
 refine ⟨h.n,?_,fun i x y hx hy=>(h.v i x y hx hy).mono a b,h.o,h.d⟩
 rcases h.c with h | ⟨g,o,hs,h1,h2,hc⟩
 ·exact .inl h
 ·exact .inr ⟨g,o,hs,by omega,by omega,hc⟩
theorem MO.mono {w:World} {lo hi lo' hi':Nat} {so:Option Addr} {S:List RS} {m:List (List WD)} (h:MO w lo hi so S m) (a:lo'≤lo) (b:hi≤hi'):MO w lo' hi' so S m:=by
 refine ⟨h.n,?_,fun i r l hr hl=>(h.r i r l hr hl).mono a b,h.d⟩
 rcases h.c with h | ⟨g,o,hs,h1,h2,hc⟩
 ·exact .inl h
 ·exact .inr ⟨g,o,hs,by omega,by omega,hc⟩
theorem at_same {α β:Type} {a:List α} {b:List β} (h:a.length=b.length) {i:Nat} {y:β} (hy:b[i]? =some y):∃ x,a[i]? =some x:=by
 have:=(List.getElem?_eq_some_iff.1 hy).1
 exact ⟨_,List.getElem?_eq_getElem (by omega)⟩
theorem VO.ints {w:World} {lo hi:Nat} {x:VS} {l:List Int} (h:VO w lo hi x l):IntsR w lo hi x.s l:=by
 rcases h.c with h | ⟨g,o,hs,h1,h2,hc⟩
 ·exact .inl h
 ·exact .inr ⟨g,o,hs,h1,h2,fun i hi=>(hc i hi).1⟩
theorem RO.ws {w:World} {lo hi:Nat} {r:RS} {l:List WD} (h:RO w lo hi r l):WsR w lo hi r.s l:=by
 rcases h.c with e | ⟨g,o,hs,h1,h2,hc⟩
 ·exact .inl e
 ·refine .inr ⟨g,o,hs,h1,h2,fun i y hy=>?_⟩
  obtain ⟨x,hx⟩:=at_same h.n hy
  obtain ⟨a,b,c⟩:=hc i x y hx hy
  have hv:=h.v i x y hx hy
  exact ⟨x.s,x.c,a,by rw [c,hv.n],hv.ints⟩
theorem MO.mem {w:World} {lo hi:Nat} {so:Option Addr} {S:List RS} {m:List (List WD)} (h:MO w lo hi so S m):MemR w lo hi so m:=by
 rcases h.c with e | ⟨g,o,hs,h1,h2,hc⟩
 ·exact .inl e
 ·refine .inr ⟨g,o,hs,h1,h2,fun i l hl=>?_⟩
  obtain ⟨r,hr⟩:=at_same h.n hl
  have hv:=h.r i r l hr hl
  exact ⟨r.s,r.c,by rw [hc i r hr,hv.n],hv.ws⟩
/- where the places lie -/
theorem VO.blk {w:World} {lo hi:Nat} {x:VS} {l:List Int} (h:VO w lo hi x l) {a:Addr} (ha:a∈vAs x):lo≤a.block∧a.block < hi:=by
 obtain ⟨i,hi',rfl⟩:=mem_vAs.1 ha
 rcases h.c with e | ⟨g,o,hs,h1,h2,hc⟩
 ·have:=h.n;rw [e] at this;simp at this;omega
 ·rw [hs];exact ⟨h1,h2⟩
theorem RO.blk {w:World} {lo hi:Nat} {r:RS} {l:List WD} (h:RO w lo hi r l) {a:Addr} (ha:a∈rAs r.s r.vs 0):lo≤a.block∧a.block < hi:=by
 rcases mem_rAs.1 ha with ⟨i,hi',rfl⟩ | ⟨x,hx,hax⟩
 ·rcases h.c with e | ⟨g,o,hs,h1,h2,hc⟩
  ·have:=h.n;rw [e] at this;simp at this;rw [this] at hi';simp at hi'
  ·rw [hs];exact ⟨h1,h2⟩
 ·obtain ⟨i,hi',e⟩:=List.getElem_of_mem hx
  have hl:i < l.length:=by have:=h.n;omega
  exact (h.v i x l[i] (by rw [List.getElem?_eq_getElem hi',e]) (List.getElem?_eq_getElem hl)).blk hax
theorem MO.blk {w:World} {lo hi:Nat} {so:Option Addr} {S:List RS} {m:List (List WD)} (h:MO w lo hi so S m) {a:Addr} (ha:a∈mAs S):lo≤a.block∧a.block < hi:=by
 obtain ⟨r,hr,har⟩:=mem_mAs.1 ha
 obtain ⟨i,hi',e⟩:=List.getElem_of_mem hr
 have hl:i < m.length:=by have:=h.n;omega
 exact (h.r i r m[i] (by rw [List.getElem?_eq_getElem hi',e]) (List.getElem?_eq_getElem hl)).blk har
theorem vAs_of_ints {w:World} {lo hi b n:Nat} {l:List Int} (h:OwnN w b (.slice (some ⟨n,0,none⟩) l.length l.length) l) (h1:lo≤n) (h2:n < hi):VO w lo hi ⟨some ⟨n,0,none⟩,l.length,l.length⟩ l:=by
 refine ⟨rfl,.inr ⟨n,0,rfl,h1,h2,fun i hi'=>⟨?_,World.ownsRow.frozenAt h _⟩⟩⟩
 rw [Nat.zero_add]
 exact h.cell hi'
theorem RO.nil (w:World) (lo hi:Nat) (s:Option Addr) (c:Nat):RO w lo hi ⟨s,c,[]⟩ []:=⟨rfl,.inl rfl,fun i x y hx=>by simp at hx,fun x hx=>by simp at hx,by simp [rAs]⟩
theorem MO.nil (w:World) (lo hi:Nat) (s:Option Addr):MO w lo hi s [] []:=⟨rfl,.inl rfl,fun i x y hx=>by simp at hx,by simp [mAs]⟩
theorem getElem?_push {α:Type} {l:List α} {y x:α} {i:Nat} (h:(l++[y])[i]? =some x):l[i]? =some x∨(i=l.length∧x=y):=by
 by_cases hi:i < l.length
 ·rw [List.getElem?_append_left hi] at h;exact .inl h
 ·have:=(List.getElem?_eq_some_iff.1 h).1
  simp at this
  have e:i=l.length:=by omega
  subst e
  simp at h
  exact .inr ⟨rfl,h.symm⟩
theorem RO.far2 {w w':World} {lo hi:Nat} {r:RS} {l:List WD} (h:RO w lo hi r l) (hk:∀ a∈rAs r.s r.vs 0,w'.heap[a.block]? =w.heap[a.block]?):RO w' lo hi r l:=by
 refine ⟨h.n,?_,fun i x y e1 e2=>?_,h.o,h.d⟩
 ·rcases h.c with h0 | ⟨g,o,es,b1,b2,hc⟩
  ·exact .inl h0
  ·refine .inr ⟨g,o,es,b1,b2,fun i x y e1 e2=>?_⟩
   have hi':=(List.getElem?_eq_some_iff.1 e1).1
   have hne:w'.heap[g]? =w.heap[g]? :=by
    have:=hk (adr r.s (i * 2)) (mem_rAs.2 (.inl ⟨i,hi',by rw [Nat.zero_add]⟩))
    rw [es] at this
    exact this
   obtain ⟨a,b,c⟩:=hc i x y e1 e2
   exact ⟨(World.cell?_of_block (w:=w) hne).trans a,(World.frozen?_of_block (w:=w) hne).trans b,(World.cell?_of_block (w:=w) hne).trans c⟩
 ·have hv:=h.v i x y e1 e2
  refine ⟨hv.n,?_⟩
  rcases hv.c with h0 | ⟨g,o,es,b1,b2,hc⟩
  ·exact .inl h0
  ·refine .inr ⟨g,o,es,b1,b2,fun j hj=>?_⟩
   have hne:w'.heap[g]? =w.heap[g]? :=by
    have:=hk (adr x.s j) (mem_rAs.2 (.inr ⟨x,List.mem_of_getElem? e1,mem_vAs.2 ⟨j,by rw [hv.n];exact hj,rfl⟩⟩))
    rw [es] at this
    exact this
   exact ⟨(World.cell?_of_block (w:=w) hne).trans (hc j hj).1,(World.frozen?_of_block (w:=w) hne).trans (hc j hj).2⟩
theorem RO.far {w w':World} {lo hi G:Nat} {r:RS} {l:List WD} (h:RO w lo hi r l) (hg:∀ a∈rAs r.s r.vs 0,a.block≠G) (hk:∀ b,b≠G→w'.heap[b]? =w.heap[b]?):RO w' lo hi r l:=h.far2 (fun a ha=>hk _ (hg a ha))
/- a row grows by one write -/
theorem RO.push {w w' : World} {lo hi G O c : Nat} {vs : List VS} {l : List WD} (x : VS) (y : WD) (h : RO w lo hi ⟨some ⟨G, O, none⟩, c, vs⟩ l) (hG : lo ≤ G ∧ G < hi)
  (hs:∀ a:Addr,a≠⟨G,O+l.length * 2,none⟩→a≠⟨G,O+l.length * 2+1,none⟩→w'.cell? a=w.cell? a∧w'.frozen? a=w.frozen? a)
  (h1:w'.cell? ⟨G,O+l.length * 2,none⟩=some (.int .i64 y.v)) (h2:w'.frozen? ⟨G,O+l.length * 2,none⟩=false) (h3:w'.cell? ⟨G,O+l.length * 2+1,none⟩=some (.slice x.s x.n x.c))
  (hx:VO w' lo hi x y.vw) (hxg:∀ a∈vAs x,a.block≠G) (hxd:(vAs x).Nodup) (hd:∀ x'∈vs,∀ a∈vAs x',a∉vAs x):RO w' lo hi ⟨some ⟨G,O,none⟩,c,vs++[x]⟩ (l++[y]):=by
 have hn:vs.length=l.length:=h.n
 have far:∀ x'∈vs,∀ a∈vAs x',w'.cell? a=w.cell? a∧w'.frozen? a=w.frozen? a:=fun x' hx' a ha=>by
  have:=h.o x' hx' a ha G O rfl
  exact hs a (fun e=>this (by rw [e])) (fun e=>this (by rw [e]))
 refine ⟨by simp [hn],.inr ⟨G,O,rfl,hG.1,hG.2,fun i x1 y1 e1 e2=>?_⟩,fun i x1 y1 e1 e2=>?_,fun x' hx' a ha g o e=>?_,?_⟩
 ·rcases getElem?_push e1 with e1 | ⟨i1,rfl⟩
  ·rcases getElem?_push e2 with e2 | ⟨i2,rfl⟩
   ·rcases h.c with h0 | ⟨g,o,e,-,-,hc⟩
    ·rw [h0] at e2;simp at e2
    ·injection e with e;injection e with e3 e4 e5
     subst e3 e4
     obtain ⟨a,b,c⟩:=hc i x1 y1 e1 e2
     have hi2:=(List.getElem?_eq_some_iff.1 e2).1
     have q1:=hs ⟨G,O+i * 2,none⟩ (by intro e;injection e with a1 a2;omega) (by intro e;injection e with a1 a2;omega)
     have q2:=hs ⟨G,O+i * 2+1,none⟩ (by intro e;injection e with a1 a2;omega) (by intro e;injection e with a1 a2;omega)
     exact ⟨q1.1.trans a,q1.2.trans b,q2.1.trans c⟩
   ·have:=(List.getElem?_eq_some_iff.1 e1).1
    have h9:vs.length=l.length:=hn
    omega
  ·rcases getElem?_push e2 with e2 | ⟨i2,rfl⟩
   ·have:=(List.getElem?_eq_some_iff.1 e2).1
    omega
   ·subst i2
    exact ⟨h1,h2,h3⟩
 ·rcases getElem?_push e1 with e1 | ⟨i1,rfl⟩
  ·rcases getElem?_push e2 with e2 | ⟨i2,rfl⟩
   ·have hv:=h.v i x1 y1 e1 e2
    refine ⟨hv.n,?_⟩
    rcases hv.c with h0 | ⟨g,o,es,b1,b2,hc⟩
    ·exact .inl h0
    ·refine .inr ⟨g,o,es,b1,b2,fun j hj=>?_⟩
     have q:=far x1 (List.mem_of_getElem? e1) ⟨g,o+j,none⟩ (mem_vAs.2 ⟨j,by rw [hv.n];exact hj,by rw [es];rfl⟩)
     exact ⟨q.1.trans (hc j hj).1,q.2.trans (hc j hj).2⟩
   ·have:=(List.getElem?_eq_some_iff.1 e1).1
    omega
  ·rcases getElem?_push e2 with e2 | ⟨i2,rfl⟩
   ·have:=(List.getElem?_eq_some_iff.1 e2).1
    omega
   ·exact hx
 ·injection e with e;injection e with e3 e4 e5
  subst e3
  rcases List.mem_append.1 hx' with hx' | hx'
  ·exact h.o x' hx' a ha G O rfl
  ·simp at hx'
   subst hx'
   exact hxg a ha
 ·show (rAs (some ⟨G,O,none⟩) (vs++[x]) 0).Nodup
  rw [rAs_app,Nat.zero_add]
  refine List.nodup_append.2 ⟨h.d,List.nodup_cons.2 ⟨fun hm=>hxg _ hm rfl,hxd⟩,fun a ha b hb e=>?_⟩
  subst e
  rcases mem_rAs.1 ha with ⟨i,hi',e⟩ | ⟨x',hx',hax⟩
  ·simp only [Nat.zero_add] at e
   rcases List.mem_cons.1 hb with hb | hb
   ·rw [e] at hb
    simp [adr] at hb
    omega
   ·exact hxg _ hb (by rw [e];rfl)
  ·rcases List.mem_cons.1 hb with hb | hb
   ·exact h.o x' hx' a hax G O rfl (by rw [hb];rfl)
   ·exact hd x' hx' a hax hb
/- a memory grows by one row -/
theorem MO.push {w w' : World} {lo hi G O : Nat} {S : List RS} {m : List (List WD)} (r : RS) (l : List WD) (h : MO w lo hi (some ⟨G, O, none⟩) S m) (hG : lo ≤ G ∧ G < hi)
  (hs:∀ i,i < m.length→w'.cell? ⟨G,O+i,none⟩=w.cell? ⟨G,O+i,none⟩) (hk:∀ (i:Nat) (r':RS) (l':List WD),S[i]? =some r'→m[i]? =some l'→RO w' lo hi r' l')
  (h1:w'.cell? ⟨G,O+m.length,none⟩=some (.slice r.s r.vs.length r.c)) (hr:RO w' lo hi r l) (hd:∀ a∈mAs S,a∉rAs r.s r.vs 0):MO w' lo hi (some ⟨G,O,none⟩) (S++[r]) (m++[l]):=by
 have hn:=h.n
 refine ⟨by simp [hn],.inr ⟨G,O,rfl,hG.1,hG.2,fun i r1 e1=>?_⟩,fun i r1 l1 e1 e2=>?_,?_⟩
 ·rcases getElem?_push e1 with e1 | ⟨i1,rfl⟩
  ·have hi':=(List.getElem?_eq_some_iff.1 e1).1
   rcases h.c with h0 | ⟨g,o,e,-,-,hc⟩
   ·rw [h0] at hn;simp at hn;rw [hn] at hi';simp at hi'
   ·injection e with e;injection e with e3 e4 e5
    subst e3 e4
    exact (hs i (by omega)).trans (hc i r1 e1)
  ·subst i1
   rw [hn]
   exact h1
 ·rcases getElem?_push e1 with e1 | ⟨i1,rfl⟩
  ·rcases getElem?_push e2 with e2 | ⟨i2,rfl⟩
   ·exact hk i r1 l1 e1 e2
   ·have:=(List.getElem?_eq_some_iff.1 e1).1;omega
  ·rcases getElem?_push e2 with e2 | ⟨i2,rfl⟩
   ·have:=(List.getElem?_eq_some_iff.1 e2).1;omega
   ·exact hr
 ·rw [mAs_app]
  exact List.nodup_append.2 ⟨h.d,hr.d,fun a ha b hb e=>hd a ha (by rw [e];exact hb)⟩
end
section
set_option linter.unusedSimpArgs false
set_option linter.unusedVariables false
set_option maxRecDepth 100000
open Go.RowKit
set_option maxHeartbeats 1000000 in
theorem toWrite_own (pc : Int) (s : Option Addr) (c lo hi : Nat) (l : List Int) (w : World) (h : IntsR w lo hi s l) (hB : hi ≤ w.heap.size) (hl : l.length ≤ 1048576) :
  Calls Tryz.prog 102 #[.agg #[.int .i64 pc,.slice s l.length c]] w fun e w'=>∃ g,e=.returned (.agg #[.int .i64 pc,.slice (some ⟨g,0,none⟩) l.length l.length])∧OwnN w' w.heap.size (.slice (some ⟨g,0,none⟩) l.length l.length) l∧Below w.heap.size w w'∧g < w'.heap.size∧w.heap.size≤g:=by
 have HR:Hid (IntsR w lo hi s l):=h
 clear h
 go_enter Tryz.func102,Tryz.ntmps102
 go_wp2_with fail
 refine (toIntS_own s c lo hi l _ (HR.out.keep (Keep.of_below ((((Below.refl w.heap.size w).alloc (Nat.le_refl _) _).alloc (by simp) _).alloc (by simp;omega) _) hB)) (by simp;omega) hl).mono ?_
 rintro e w1 ⟨rfl,ho1,hb1,hz1⟩
 have z3:w.heap.size+3 < w1.heap.size:=by simp at hz1;omega
 have z0:w.heap.size < w1.heap.size:=by omega
 have z1:w.heap.size+1 < w1.heap.size:=by omega
 have z2:w.heap.size+1+1 < w1.heap.size:=by omega
 have d0:w1.cell? ⟨w.heap.size+1,0,none⟩=some (.int .i64 0):=by rw [hb1.cell (by simp)];simp [go_sem]
 have d1:w1.cell? ⟨w.heap.size+1,1,none⟩=some (.slice none 0 0):=by rw [hb1.cell (by simp)];simp [go_sem]
 have e0:w1.cell? ⟨w.heap.size+1+1,0,none⟩=some (.int .i64 pc):=by rw [hb1.cell (by simp)];simp [go_sem]
 have e1:w1.cell? ⟨w.heap.size+1+1,1,none⟩=some (.slice none 0 0):=by rw [hb1.cell (by simp)];simp [go_sem]
 have y0:∀ j,w1.frozen? ⟨w.heap.size+1,j,none⟩=false:=fun j=>by rw [hb1.frozen (by simp)];simp [go_sem]
 have y1:∀ j,w1.frozen? ⟨w.heap.size+1+1,j,none⟩=false:=fun j=>by rw [hb1.frozen (by simp)];simp [go_sem]
 have k1:Below w.heap.size w w1:=((((Below.refl _ w).alloc (Nat.le_refl _) _).alloc (by simp) _).alloc (by simp;omega) _).trans (hb1.mono (by simp;omega))
 obtain ⟨G,hG,hGb⟩:∃ G,G=w.heap.size+1+1+1∧w.heap.size+3≤G:=⟨_,rfl,Nat.le_refl _⟩
 have HI:Hid (OwnN w1 w.heap.size (.slice (some ⟨G,0,none⟩) l.length l.length) l):=by
  have h:=ho1
  simp at h
  rw [hG]
  exact ownLow' h (by omega)
 have HGs:Hid (G < w1.heap.size):=by show G < w1.heap.size;omega
 have e3:(((w.alloc (.cells #[.int .i64 pc,.slice s l.length c] 147)).alloc (.cells #[.int .i64 0,.slice none 0 0] 127)).alloc (.cells #[.int .i64 pc,.slice none 0 0] 127)).heap.size=G:=by simp [hG]
 first | rw [e3] | (simp only [World.size_alloc];rw [← hG]) | skip
 clear hb1 ho1 hz1 hG e3
 go_wp2
 have fin:∀ k,w.heap.size+3≤k→(((w1.setCell ⟨w.heap.size+1+1,1,none⟩ (.slice (some ⟨G,0,none⟩) l.length l.length)).setCell ⟨w.heap.size+1,0,none⟩ (.int .i64 pc)).setCell ⟨w.heap.size+1,1,none⟩ (.slice (some ⟨G,0,none⟩) l.length l.length)).heap[k]? =w1.heap[k]? :=fun k hk=>by
  rw [Below.heap_setCell _ _ _ k (by simp;omega),Below.heap_setCell _ _ _ k (by simp;omega),Below.heap_setCell _ _ _ k (by simp;omega)]
 refine bodyPost_ret (v:=.agg #[.int .i64 pc,.slice (some ⟨G,0,none⟩) l.length l.length]) (by simp [results,Tryz.results102,go_sem,d0,d1]) rfl ⟨G,rfl,?_,?_,by have:=HGs.out;simp;omega,by omega⟩
 ·exact ownKeep' HI.out (fun k hk=>fin k (by have hk2:some G=some k:=hk;injection hk2 with hk2;omega))
 ·exact (((k1.setCell (p:=⟨w.heap.size+1+1,1,none⟩) (by simp;omega) _).setCell (p:=⟨w.heap.size+1,0,none⟩) (by simp) _).setCell (p:=⟨w.heap.size+1,1,none⟩) (by simp) _)
theorem mkW (n:Nat) (hn:n≤1048576) (w:World):(Instr.makeSlice 125 (.int .i64 (n:Int)) (.int .i64 (n:Int))).run Tryz.prog w=.ok (.slice (some ⟨w.heap.size,0,none⟩) n n) (w.alloc (.cells (madeCells #[.int .i64 0,.slice none 0 0] (n * 2)) 127)):=by
 have h:=run_make (P:=Tryz.prog) w 125 127 _ (.agg #[.int .i64 0,.slice none 0 0]) Tryz.underlying125 rfl rfl .i64 .i64 n n (by omega) (Int.le_refl _) (by show (32:Int) * _≤_;omega) (by omega)
 have e:(Value.agg #[.int .i64 0,.slice none 0 0]).cells=#[.int .i64 0,.slice none 0 0]:=rfl
 have e':∀ t,Tryz.prog.info? 127=some t→t.size=2:=by intro t h;cases h;rfl
 rw [e,e' _ rfl] at h
 simpa using h
theorem mkWW (n:Nat) (hn:n≤1048576) (w:World):(Instr.makeSlice 35 (.int .i64 (n:Int)) (.int .i64 (n:Int))).run Tryz.prog w=.ok (.slice (some ⟨w.heap.size,0,none⟩) n n) (w.alloc (.cells (madeCells #[.slice none 0 0] (n * 1)) 125)):=by
 have h:=run_make (P:=Tryz.prog) w 35 125 _ (.slice none 0 0) Tryz.underlying35 rfl rfl .i64 .i64 n n (by omega) (Int.le_refl _) (by show (24:Int) * _≤_;omega) (by omega)
 have e:(Value.slice none 0 0).cells=#[.slice none 0 0]:=rfl
 have e':∀ t,Tryz.prog.info? 125=some t→t.size=1:=by intro t h;cases h;rfl
 rw [e,e' _ rfl] at h
 simpa using h
def set2 (w:World) (g o:Nat) (a b:Value):World:=(w.setCell ⟨g,o,none⟩ a).setCell ⟨g,o+1,none⟩ b
theorem set2_below {B g o:Nat} {w w':World} {a b:Value} (h:Below B w w') (hg:B≤g):Below B w (set2 w' g o a b):=(h.setCell (p:=⟨g,o,none⟩) hg _).setCell (p:=⟨g,o+1,none⟩) hg _
theorem set2_size {g o:Nat} {w:World} {a b:Value}:(set2 w g o a b).heap.size=w.heap.size:=by simp [set2]
theorem set2_block {g o k:Nat} {w:World} {a b:Value} (h:k≠g):(set2 w g o a b).heap[k]? =w.heap[k]? :=by
 unfold set2
 rw [Below.heap_setCell _ _ _ k h,Below.heap_setCell _ _ _ k h]
theorem set2_frozen {g o:Nat} {w:World} {a b:Value} (p:Addr):(set2 w g o a b).frozen? p=w.frozen? p:=by simp [set2,World.frozen?_setCell]
theorem set2_off {g o:Nat} {w:World} {a b:Value} (p:Addr) (h1:p≠⟨g,o,none⟩) (h2:p≠⟨g,o+1,none⟩):(set2 w g o a b).cell? p=w.cell? p:=by
 unfold set2
 rw [World.cell?_setCell_other _ _ _ _ (fun e=>h2 e.symm),World.cell?_setCell_other _ _ _ _ (fun e=>h1 e.symm)]
theorem set2_at {g o:Nat} {w:World} {a b:Value} (h1:(w.cell? ⟨g,o,none⟩).isSome=true) (h2:(w.cell? ⟨g,o+1,none⟩).isSome=true):(set2 w g o a b).cell? ⟨g,o,none⟩=some a∧(set2 w g o a b).cell? ⟨g,o+1,none⟩=some b:=by
 unfold set2
 refine ⟨?_,setC_at (setC_some h2)⟩
 rw [setC_off (by omega)]
 exact setC_at h1
set_option maxHeartbeats 1000000 in
theorem toWriteS_own (s : Option Addr) (c lo hi : Nat) (l : List WD) (w : World) (h : WsR w lo hi s l) (hB : hi ≤ w.heap.size) (hl : l.length + szV l ≤ 1048576) :
  Calls Tryz.prog 86 #[.slice s l.length c] w fun e w'=>∃ vs,e=.returned (.slice (some ⟨w.heap.size,0,none⟩) l.length l.length)∧RO w' w.heap.size w'.heap.size ⟨some ⟨w.heap.size,0,none⟩,l.length,vs⟩ l∧Below w.heap.size w w'∧w.heap.size < w'.heap.size:=by
 have hl1:l.length≤1048576:=by omega
 have hmk:=mkW l.length hl1
 have HC:Hid (WsR w lo hi s l):=h
 have HLS:Hid (∀ (i:Nat) (t:WD),l[i]? =some t→t.vw.length≤1048576):=fun i t ht=>by have:=szV_at l i t ht;omega
 clear h hl
 go_enter Tryz.func86,Tryz.ntmps86
 go_wp2
 clear hmk
 go_loopw [4] (fun i wr=>∃ k:Nat,k≤l.length∧i=.int .i64 k∧Below w.heap.size w wr∧w.heap.size < wr.heap.size∧(∀ j,j < l.length * 2→(wr.cell? ⟨w.heap.size,j,none⟩).isSome=true)∧(∀ j,wr.frozen? ⟨w.heap.size,j,none⟩=false)∧∃ vs,RO wr w.heap.size wr.heap.size ⟨some ⟨w.heap.size,0,none⟩,l.length,vs⟩ (l.take k)) (fun i _=>l.length - (intOf i).toNat)
 case atStart=>
  exact ⟨0,Nat.zero_le _,rfl,(Below.refl _ _).alloc (Nat.le_refl _) _,by simp,fun j hj=>new_cell (by rw [size_madeCells];omega),fun j=>new_frozen,[],RO.nil _ _ _ _ _⟩
 case round=>
  obtain ⟨k,hk,rfl,hb,hsz,hso,hfz,vs,hro⟩:=hrel
  have HB:Hid (Below w.heap.size w wr):=hb
  have HSO:Hid (∀ j,j < l.length * 2→(wr.cell? ⟨w.heap.size,j,none⟩).isSome=true):=hso
  have HFZ:Hid (∀ j,wr.frozen? ⟨w.heap.size,j,none⟩=false):=hfz
  have HRO:Hid (RO wr w.heap.size wr.heap.size ⟨some ⟨w.heap.size,0,none⟩,l.length,vs⟩ (l.take k)):=hro
  clear hb hso hfz hro
  by_cases hlt:k < l.length
  ·obtain ⟨t,ht⟩:∃ t,l[k]? =some t:=⟨_,List.getElem?_eq_getElem hlt⟩
   obtain ⟨g,off,s1,c1,hs,hg1,hg,f0,f1,hin⟩:=(HC.out.keep (Keep.of_below HB.out hB)).at ht
   subst hs
   have hlen:=HLS.out k t ht
   have HT:Hid (l.take (k+1)=l.take k++[t]):=by show l.take (k+1)=l.take k++[t];rw [List.take_add_one,ht];rfl
   have TL:Hid ((l.take k).length=k):=by show (l.take k).length=k;simp;omega
   obtain ⟨v,rg⟩:=t
   simp only at f0 f1 hin hlen
   have HIN:Hid (IntsR wr lo hi s1 rg):=hin
   clear ht hin
   have b0:(0:Int)≤(k:Int):=by omega
   have b1:(k:Int) < (l.length:Int):=by omega
   go_wp2_with fail
   refine (toWrite_own v s1 c1 lo hi rg wr HIN.out (by omega) hlen).mono ?_
   rintro e w1 ⟨G,rfl,ho1,hb1,hz1,hG⟩
   have HB1:Hid (Below wr.heap.size wr w1):=hb1
   have HO1:Hid (OwnN w1 wr.heap.size (.slice (some ⟨G,0,none⟩) rg.length rg.length) rg):=ho1
   have HG:Hid (wr.heap.size≤G∧G < w1.heap.size):=⟨hG,hz1⟩
   have HSO1:Hid (∀ j,j < l.length * 2→(w1.cell? ⟨w.heap.size,j,none⟩).isSome=true):=fun j hj=>by rw [hb1.cell (p:=⟨w.heap.size,j,none⟩) hsz];exact HSO.out j hj
   have hfz:∀ j,w1.frozen? ⟨w.heap.size,j,none⟩=false:=fun j=>by rw [hb1.frozen (p:=⟨w.heap.size,j,none⟩) hsz];exact HFZ.out j
   obtain ⟨u0,g0⟩:=Option.isSome_iff_exists.1 (HSO1.out (k * 2) (by omega))
   obtain ⟨u1,g1⟩:=Option.isSome_iff_exists.1 (HSO1.out (k * 2+1) (by omega))
   clear hb1 ho1 hG hz1 f0 f1
   go_wp2
   go_roundw
   case rel=>
    have hs1:=HB1.out.size
    have hg:=HG.out
    show ∃ k':Nat,_∧_∧Below w.heap.size w (set2 w1 w.heap.size (k * 2) (.int .i64 v) (.slice (some ⟨G,0,none⟩) rg.length rg.length))∧_ < (set2 w1 w.heap.size (k * 2) (.int .i64 v) (.slice (some ⟨G,0,none⟩) rg.length rg.length)).heap.size∧(∀ j,_→((set2 w1 w.heap.size (k * 2) (.int .i64 v) (.slice (some ⟨G,0,none⟩) rg.length rg.length)).cell? _).isSome=true)∧(∀ j,(set2 w1 w.heap.size (k * 2) (.int .i64 v) (.slice (some ⟨G,0,none⟩) rg.length rg.length)).frozen? _=false)∧∃ vs',RO (set2 w1 w.heap.size (k * 2) (.int .i64 v) (.slice (some ⟨G,0,none⟩) rg.length rg.length)) _ (set2 w1 w.heap.size (k * 2) (.int .i64 v) (.slice (some ⟨G,0,none⟩) rg.length rg.length)).heap.size _ _
    have ats:=set2_at (w:=w1) (g:=w.heap.size) (o:=k * 2) (a:=.int .i64 v) (b:=.slice (some ⟨G,0,none⟩) rg.length rg.length) (by rw [g0];rfl) (by rw [g1];rfl)
    refine ⟨k+1,by omega,by go_num,set2_below (HB.out.trans (HB1.out.mono (by omega))) (Nat.le_refl _),by rw [set2_size];omega,fun j hj=>setC_some (setC_some (HSO1.out j hj)),fun j=>by rw [set2_frozen];exact hfz j,vs++[⟨some ⟨G,0,none⟩,rg.length,rg.length⟩],?_⟩
    rw [HT.out,set2_size]
    have hr:=(HRO.out.keep (Keep.of_below HB1.out (Nat.le_refl _))).mono (Nat.le_refl _) hs1
    have tl:=TL.out
    refine RO.push (w:=w1) ⟨some ⟨G,0,none⟩,rg.length,rg.length⟩ ⟨v,rg⟩ hr ⟨Nat.le_refl _,by omega⟩ (fun a h1 h2=>⟨set2_off a (by rw [tl,Nat.zero_add] at h1;exact h1) (by rw [tl,Nat.zero_add] at h2;exact h2),set2_frozen a⟩) ?_ ?_ ?_ ?_ ?_ (vAs_nodup (g:=G) (o:=0) rfl) ?_
    ·rw [tl,Nat.zero_add];exact ats.1
    ·rw [set2_frozen];exact hfz _
    ·rw [tl,Nat.zero_add];exact ats.2
    ·exact vAs_of_ints (ownKeep' HO1.out (fun b hb=>set2_block (by have hb2:some G=some b:=hb;injection hb2 with hb2;omega))) (by omega) hg.2
    ·intro a ha
     obtain ⟨i,-,rfl⟩:=mem_vAs.1 ha
     show G≠_
     omega
    ·intro x' hx' a ha ha'
     obtain ⟨i,-,rfl⟩:=mem_vAs.1 ha'
     have hm:adr (some ⟨G,0,none⟩) i∈rAs (some ⟨w.heap.size,0,none⟩) vs 0:=mem_rAs.2 (.inr ⟨x',hx',ha⟩)
     have:=(HRO.out.blk (a:=adr (some ⟨G,0,none⟩) i) hm).2
     have h9:G < wr.heap.size:=this
     omega
   case measure=>simp [intOf];omega
  ·go_wp2
   go_ret
   have:k=l.length:=by omega
   subst this
   have h1:=HRO.out
   rw [List.take_length] at h1
   exact ⟨vs,rfl,h1,HB.out,hsz⟩
set_option maxHeartbeats 1000000 in
theorem toWriteSS_own (s : Option Addr) (c lo hi : Nat) (m : List (List WD)) (w : World) (h : MemR w lo hi s m) (hB : hi ≤ w.heap.size) (hl : MFits m) :
  Calls Tryz.prog 60 #[.slice s m.length c] w fun e w'=>∃ S,e=.returned (.slice (some ⟨w.heap.size,0,none⟩) m.length m.length)∧MO w' w.heap.size w'.heap.size (some ⟨w.heap.size,0,none⟩) S m∧Below w.heap.size w w'∧w.heap.size < w'.heap.size:=by
 have hl1:=hl.n
 have hmk:=mkWW m.length hl1
 have HC:Hid (MemR w lo hi s m):=h
 have HLS:Hid (∀ (i:Nat) (t:List WD),m[i]? =some t→t.length+szV t≤1048576):=fun i t ht=>hl.r ht
 clear h hl
 go_enter Tryz.func60,Tryz.ntmps60
 go_wp2
 clear hmk
 go_loopw [4] (fun i wr=>∃ k:Nat,k≤m.length∧i=.int .i64 k∧Below w.heap.size w wr∧w.heap.size < wr.heap.size∧(∀ j,j < m.length→(wr.cell? ⟨w.heap.size,j,none⟩).isSome=true)∧(∀ j,wr.frozen? ⟨w.heap.size,j,none⟩=false)∧∃ S,MO wr w.heap.size wr.heap.size (some ⟨w.heap.size,0,none⟩) S (m.take k)∧∀ a∈mAs S,a.block≠w.heap.size) (fun i _=>m.length - (intOf i).toNat)
 case atStart=>
  exact ⟨0,Nat.zero_le _,rfl,(Below.refl _ _).alloc (Nat.le_refl _) _,by simp,fun j hj=>new_cell (by rw [size_madeCells];omega),fun j=>new_frozen,[],MO.nil _ _ _ _,fun a ha=>by simp [mAs] at ha⟩
 case round=>
  obtain ⟨k,hk,rfl,hb,hsz,hso,hfz,S,hro,hne⟩:=hrel
  have HB:Hid (Below w.heap.size w wr):=hb
  have HSO:Hid (∀ j,j < m.length→(wr.cell? ⟨w.heap.size,j,none⟩).isSome=true):=hso
  have HFZ:Hid (∀ j,wr.frozen? ⟨w.heap.size,j,none⟩=false):=hfz
  have HRO:Hid (MO wr w.heap.size wr.heap.size (some ⟨w.heap.size,0,none⟩) S (m.take k)):=hro
  have HNE:Hid (∀ a∈mAs S,a.block≠w.heap.size):=hne
  clear hb hso hfz hro hne
  by_cases hlt:k < m.length
  ·obtain ⟨t,ht⟩:∃ t,m[k]? =some t:=⟨_,List.getElem?_eq_getElem hlt⟩
   obtain ⟨g,off,s1,c1,hs,hg1,hg,f0,hin⟩:=(HC.out.keep (Keep.of_below HB.out hB)).row ht
   subst hs
   have HL:Hid (t.length+szV t≤1048576):=HLS.out k t ht
   have HT:Hid (m.take (k+1)=m.take k++[t]):=by show m.take (k+1)=m.take k++[t];rw [List.take_add_one,ht];rfl
   have TL:Hid ((m.take k).length=k):=by show (m.take k).length=k;simp;omega
   have HIN:Hid (WsR wr lo hi s1 t):=hin
   clear ht hin
   have b0:(0:Int)≤(k:Int):=by omega
   have b1:(k:Int) < (m.length:Int):=by omega
   go_wp2_with fail
   refine (toWriteS_own s1 c1 lo hi t wr HIN.out (by omega) HL.out).mono ?_
   rintro e w1 ⟨vs,rfl,ho1,hb1,hz1⟩
   have HB1:Hid (Below wr.heap.size wr w1):=hb1
   have HO1:Hid (RO w1 wr.heap.size w1.heap.size ⟨some ⟨wr.heap.size,0,none⟩,t.length,vs⟩ t):=ho1
   have HSO1:Hid (∀ j,j < m.length→(w1.cell? ⟨w.heap.size,j,none⟩).isSome=true):=fun j hj=>by rw [hb1.cell (p:=⟨w.heap.size,j,none⟩) hsz];exact HSO.out j hj
   have hfz:∀ j,w1.frozen? ⟨w.heap.size,j,none⟩=false:=fun j=>by rw [hb1.frozen (p:=⟨w.heap.size,j,none⟩) hsz];exact HFZ.out j
   obtain ⟨u0,g0⟩:=Option.isSome_iff_exists.1 (HSO1.out k (by omega))
   have HZ1:Hid (wr.heap.size < w1.heap.size):=hz1
   clear hb1 ho1 f0 hz1
   go_wp2
   go_roundw
   case rel=>
    have hs1:=HB1.out.size
    have tl:=TL.out
    have hz:=HZ1.out
    have n1:=HO1.out.n
    simp only at n1
    have at0:(w1.setCell ⟨w.heap.size,k,none⟩ (.slice (some ⟨wr.heap.size,0,none⟩) t.length t.length)).cell? ⟨w.heap.size,k,none⟩=some (.slice (some ⟨wr.heap.size,0,none⟩) t.length t.length):=setC_at (by rw [g0];rfl)
    have kp:Keep (w.heap.size+1) w1.heap.size w1 (w1.setCell ⟨w.heap.size,k,none⟩ (.slice (some ⟨wr.heap.size,0,none⟩) t.length t.length)):=fun b h1 h2=>Below.heap_setCell _ _ _ b (by show b≠w.heap.size;omega)
    have hr1:RO (w1.setCell ⟨w.heap.size,k,none⟩ (.slice (some ⟨wr.heap.size,0,none⟩) t.length t.length)) w.heap.size w1.heap.size ⟨some ⟨wr.heap.size,0,none⟩,t.length,vs⟩ t:=((HO1.out.mono (lo':=w.heap.size+1) (by omega) (Nat.le_refl _)).keep kp).mono (by omega) (Nat.le_refl _)
    refine ⟨k+1,by omega,by go_num,(HB.out.trans (HB1.out.mono (by omega))).setCell (p:=⟨w.heap.size,k,none⟩) (Nat.le_refl _) _,by simp;omega,fun j hj=>setC_some (HSO1.out j hj),fun j=>by rw [World.frozen?_setCell];exact hfz j,S++[⟨some ⟨wr.heap.size,0,none⟩,t.length,vs⟩],?_,?_⟩
    ·rw [HT.out]
     have e9:(w1.setCell ⟨w.heap.size,k,none⟩ (.slice (some ⟨wr.heap.size,0,none⟩) t.length t.length)).heap.size=w1.heap.size:=by simp
     rw [e9]
     have hm1:=(HRO.out.keep (Keep.of_below HB1.out (Nat.le_refl _))).mono (Nat.le_refl _) hs1
     refine MO.push (w:=w1) ⟨some ⟨wr.heap.size,0,none⟩,t.length,vs⟩ t hm1 ⟨Nat.le_refl _,by omega⟩ (fun i hi'=>setC_off (by rw [tl] at hi';omega)) (fun i r' l' e1 e2=>?_) ?_ hr1 ?_
     ·have hh:=hm1.r i r' l' e1 e2
      exact hh.far (fun a ha=>HNE.out a (mem_mAs.2 ⟨r',List.mem_of_getElem? e1,ha⟩)) (fun b hb=>Below.heap_setCell _ _ _ b hb)
     ·rw [tl,Nat.zero_add,at0]
      rw [← n1]
     ·intro a ha ha'
      have h1:=(HRO.out.blk ha).2
      have h2:=(HO1.out.blk ha').1
      omega
    ·intro a ha
     rw [mAs_app] at ha
     rcases List.mem_append.1 ha with ha | ha
     ·exact HNE.out a ha
     ·have h2:=(HO1.out.blk ha).1
      omega
   case measure=>simp [intOf];omega
  ·go_wp2
   go_ret
   have:k=m.length:=by omega
   subst this
   have h1:=HRO.out
   rw [List.take_length] at h1
   exact ⟨S,rfl,h1,HB.out,hsz⟩
set_option maxHeartbeats 1000000 in
theorem toMemory_own (s : Option Addr) (c lo hi : Nat) (m : List (List WD)) (w : World) (h : MemR w lo hi s m) (hB : hi ≤ w.heap.size) (hl : MFits m) :
  Calls Tryz.prog 28 #[.agg #[.slice s m.length c]] w fun e w'=>∃ G S,e=.returned (.agg #[.slice (some ⟨G,0,none⟩) m.length m.length])∧MO w' w.heap.size w'.heap.size (some ⟨G,0,none⟩) S m∧Below w.heap.size w w'∧w.heap.size < w'.heap.size:=by
 have HR:Hid (MemR w lo hi s m):=h
 clear h
 go_enter Tryz.func28,Tryz.ntmps28
 go_wp2_with fail
 have k0:Below w.heap.size w (((w.alloc (.cells #[.slice s m.length c] 26)).alloc (.cells #[.slice none 0 0] 37)).alloc (.cells #[.slice none 0 0] 37)):=(((Below.refl w.heap.size w).alloc (Nat.le_refl _) _).alloc (by simp) _).alloc (by simp;omega) _
 refine (toWriteSS_own s c lo hi m _ (HR.out.keep (Keep.of_below k0 hB)) (by simp;omega) hl).mono ?_
 rintro e w1 ⟨S,rfl,ho1,hb1,hz1⟩
 have z3:w.heap.size+3 < w1.heap.size:=by simp at hz1;omega
 have z1:w.heap.size+1 < w1.heap.size:=by omega
 have z2:w.heap.size+1+1 < w1.heap.size:=by omega
 have d0:w1.cell? ⟨w.heap.size+1,0,none⟩=some (.slice none 0 0):=by rw [hb1.cell (by simp)];simp [go_sem]
 have e0:w1.cell? ⟨w.heap.size+1+1,0,none⟩=some (.slice none 0 0):=by rw [hb1.cell (by simp)];simp [go_sem]
 have y0:∀ j,w1.frozen? ⟨w.heap.size+1,j,none⟩=false:=fun j=>by rw [hb1.frozen (by simp)];simp [go_sem]
 have y1:∀ j,w1.frozen? ⟨w.heap.size+1+1,j,none⟩=false:=fun j=>by rw [hb1.frozen (by simp)];simp [go_sem]
 have k1:Below w.heap.size w w1:=k0.trans (hb1.mono (by simp;omega))
 obtain ⟨G,hG,hGb⟩:∃ G,G=w.heap.size+1+1+1∧w.heap.size+3≤G:=⟨_,rfl,Nat.le_refl _⟩
 have HI:Hid (MO w1 G w1.heap.size (some ⟨G,0,none⟩) S m):=by
  have h:=ho1
  simp at h
  rw [hG]
  exact h
 have e3:(((w.alloc (.cells #[.slice s m.length c] 26)).alloc (.cells #[.slice none 0 0] 37)).alloc (.cells #[.slice none 0 0] 37)).heap.size=G:=by simp [hG]
 first | rw [e3] | (simp only [World.size_alloc];rw [← hG]) | skip
 clear hb1 ho1 hz1 hG e3 k0
 go_wp2
 refine bodyPost_ret (v:=.agg #[.slice (some ⟨G,0,none⟩) m.length m.length]) (by simp [results,Tryz.results28,go_sem,d0]) rfl ⟨G,S,rfl,?_,?_,by simp;omega⟩
 ·refine (MO.mono (lo:=G) (hi:=w1.heap.size) ?_ (by omega) (by simp))
  exact HI.out.keep (fun k h1 h2=>by rw [Below.heap_setCell _ _ _ k (by simp;omega),Below.heap_setCell _ _ _ k (by simp;omega)])
 ·exact (k1.setCell (p:=⟨w.heap.size+1+1,0,none⟩) (by simp;omega) _).setCell (p:=⟨w.heap.size+1,0,none⟩) (by simp) _
end
section
set_option linter.unusedSimpArgs false
set_option linter.unusedVariables false
set_option maxRecDepth 100000
open Go.RowKit
structure ND where
 who:Int
 v:Int
def NtR (w:World) (g off:Nat) (n:ND):Prop:=w.cell? ⟨g,off,none⟩=some (.int .i64 n.who)∧w.cell? ⟨g,off+1,none⟩=some (.int .i64 n.v)
def NtsR (w:World) (lo hi:Nat) (s:Option Addr) (l:List ND):Prop:=
 l=[]∨∃ g off,s=some ⟨g,off,none⟩∧lo≤g∧g < hi∧∀ (i:Nat) (n:ND),l[i]? =some n→NtR w g (off+i * 2) n
theorem NtsR.keep {w w':World} {lo hi:Nat} {s:Option Addr} {l:List ND} (h:NtsR w lo hi s l) (hb:Keep lo hi w w'):NtsR w' lo hi s l:=by
 rcases h with h | ⟨g,o,hs,h1,h2,hc⟩
 ·exact .inl h
 ·exact .inr ⟨g,o,hs,h1,h2,fun i r hi=>⟨(hb.cell h1 h2).trans (hc i r hi).1,(hb.cell h1 h2).trans (hc i r hi).2⟩⟩
def flatN:List ND→List Value
 | []=>[]
 | x::t=>[.int .i64 x.who,.int .i64 x.v]++flatN t
theorem flatN_len:∀ L:List ND,(flatN L).length=L.length * 2
 | []=>rfl
 | x::t=>by simp [flatN,flatN_len t];omega
theorem flatN_app:∀ (a b:List ND),flatN (a++b)=flatN a++flatN b
 | [],b=>rfl
 | x::r,b=>by simp [flatN,flatN_app r b]
theorem flatN_at:∀ (L:List ND) (i:Nat) (x:ND),L[i]? =some x→(flatN L)[i * 2]? =some (.int .i64 x.who)∧(flatN L)[i * 2+1]? =some (.int .i64 x.v)
 | [],i,x,h=>by simp at h
 | y::r,0,x,h=>by
  simp at h
  subst h
  exact ⟨rfl,rfl⟩
 | y::r,i+1,x,h=>by
  have h':r[i]? =some x:=by simpa using h
  have e:=flatN_at r i x h'
  have e0:(i+1) * 2=i * 2+2:=by omega
  rw [e0]
  exact e
def OwnD (w:World) (base:Nat) (v:Value) (l:List ND):Prop:=w.ownsRow base 97 2 v l.length (flatN l)
theorem flatN_put (A B:List ND) (x y:ND):((flatN (A++x::B)).set (A.length * 2) (.int .i64 y.who)).set (A.length * 2+1) (.int .i64 y.v)=flatN (A++y::B):=by
 have hl:A.length * 2=(flatN A).length:=(flatN_len A).symm
 rw [flatN_app,flatN_app,hl]
 have e0:=setApp (flatN (x::B)) 0 (Value.int .i64 y.who) (flatN A)
 rw [Nat.add_zero] at e0
 rw [e0,setApp]
 rfl
theorem flatN_rep (n:Nat):flatN (List.replicate n ⟨0,0⟩)=(madeCells #[.int .i64 0,.int .i64 0] (n * 2)).toList:=by
 apply List.ext_getElem?
 intro j
 by_cases hj:j < n * 2
 ·have h1:(List.replicate n (⟨0,0⟩:ND))[j / 2]? =some ⟨0,0⟩:=by rw [List.getElem?_replicate,if_pos (by omega)]
  obtain ⟨e0,e1⟩:=flatN_at _ _ _ h1
  have hm:(madeCells #[.int .i64 0,.int .i64 0] (n * 2)).toList[j]? =some (.int .i64 0):=by
   simp [madeCells,hj]
   rcases (show j % 2=0∨j % 2=1 by omega) with h | h<;>rw [h]<;>rfl
  rw [hm]
  rcases (show j % 2=0∨j % 2=1 by omega) with h | h
  ·rw [show j=j / 2 * 2 by omega,e0]
  ·rw [show j=j / 2 * 2+1 by omega,e1]
 ·rw [List.getElem?_eq_none (by rw [flatN_len];simp;omega),List.getElem?_eq_none (by rw [Array.length_toList,size_madeCells];omega)]
theorem toNote_any (a b:Int) (w:World):Calls Tryz.prog 61 #[.agg #[.int .i64 a,.int .i64 b]] w fun e w'=>e=.returned (.agg #[.int .i64 a,.int .i64 b])∧Below w.heap.size w w':=by
 go_enter Tryz.func61,Tryz.ntmps61
 go_wp2
 exact bodyPost_ret (v:=.agg #[.int .i64 a,.int .i64 b]) (by simp [results,Tryz.results61,go_sem]) rfl ⟨rfl,(((Below.refl _ _).alloc (Nat.le_refl _) _).alloc (by simp) _).alloc (by simp;omega) _⟩
theorem mkN (n:Nat) (hn:n≤1048576) (w:World):(Instr.makeSlice 38 (.int .i64 (n:Int)) (.int .i64 (n:Int))).run Tryz.prog w=.ok (.slice (some ⟨w.heap.size,0,none⟩) n n) (w.alloc (.cells (madeCells #[.int .i64 0,.int .i64 0] (n * 2)) 97)):=by
 have h:=run_make (P:=Tryz.prog) w 38 97 _ (.agg #[.int .i64 0,.int .i64 0]) Tryz.underlying38 rfl rfl .i64 .i64 n n (by omega) (Int.le_refl _) (by show (16:Int) * _≤_;omega) (by omega)
 have e:(Value.agg #[.int .i64 0,.int .i64 0]).cells=#[.int .i64 0,.int .i64 0]:=rfl
 have e':∀ t,Tryz.prog.info? 97=some t→t.size=2:=by intro t h;cases h;rfl
 rw [e,e' _ rfl] at h
 simpa using h
set_option maxHeartbeats 1000000 in
theorem toNoteS_own (s : Option Addr) (c lo hi : Nat) (l : List ND) (w : World) (h : NtsR w lo hi s l) (hB : hi ≤ w.heap.size) (hl : l.length ≤ 1048576) :
  Calls Tryz.prog 29 #[.slice s l.length c] w fun e w'=>e=.returned (.slice (some ⟨w.heap.size,0,none⟩) l.length l.length)∧OwnD w' w.heap.size (.slice (some ⟨w.heap.size,0,none⟩) l.length l.length) l∧Below w.heap.size w w'∧w.heap.size < w'.heap.size:=by
 have hmk:=mkN l.length hl
 have HC:Hid (NtsR w lo hi s l):=h
 clear h
 go_enter Tryz.func29,Tryz.ntmps29
 go_wp2
 clear hmk
 go_loopw [4] (fun i wr=>∃ k:Nat,k≤l.length∧i=.int .i64 k∧Below w.heap.size w wr∧w.heap.size < wr.heap.size∧wr.ownsRow w.heap.size 97 2 (.slice (some ⟨w.heap.size,0,none⟩) l.length l.length) l.length (flatN (l.take k++List.replicate (l.length - k) ⟨0,0⟩))) (fun i _=>l.length - (intOf i).toNat)
 case atStart=>
  refine ⟨0,Nat.zero_le _,rfl,(Below.refl _ _).alloc (Nat.le_refl _) _,by simp,?_⟩
  have h0:=World.ownsRow_lit (base:=w.heap.size) (e:=97) (size:=2) w (madeCells #[.int .i64 0,.int .i64 0] (l.length * 2)) l.length (Nat.le_refl _) (by unfold maxLen;omega) (size_madeCells _ _)
  rw [← flatN_rep] at h0
  simpa using h0
 case round=>
  obtain ⟨k,hk,rfl,hb,hsz,ho⟩:=hrel
  have HB:Hid (Below w.heap.size w wr):=hb
  have HO:=(show Hid _ from ho)
  clear hb ho
  by_cases hlt:k < l.length
  ·obtain ⟨t,ht⟩:∃ t,l[k]? =some t:=⟨_,List.getElem?_eq_getElem hlt⟩
   obtain ⟨g,off,hs,hg,hc⟩:∃ g off,s=some ⟨g,off,none⟩∧g < w.heap.size∧NtR w g (off+k * 2) t:=by
    rcases HC.out with h | ⟨g,off,a,b,d,e⟩
    ·rw [h] at hlt;simp at hlt
    ·exact ⟨g,off,a,by omega,e k t ht⟩
   subst hs
   have f0:=(HB.out.cell (p:=⟨g,off+k * 2,none⟩) hg).trans hc.1
   have f1:=(HB.out.cell (p:=⟨g,off+k * 2+1,none⟩) hg).trans hc.2
   have HT:Hid (l[k]? =some t):=ht
   clear ht hc
   obtain ⟨ta,tb⟩:=t
   simp only at f0 f1
   have b0:(0:Int)≤(k:Int):=by omega
   have b1:(k:Int) < (l.length:Int):=by omega
   go_wp2_with fail
   refine (toNote_any ta tb _).mono ?_
   rintro e w1 ⟨rfl,hb1⟩
   have HB1:Hid (Below wr.heap.size wr w1):=hb1
   have hlr:(l.take k++List.replicate (l.length - k) (⟨0,0⟩:ND)).length=l.length:=by simp;omega
   have HO1:Hid (w1.ownsRow w.heap.size 97 2 (.slice (some ⟨w.heap.size,0,none⟩) l.length l.length) l.length (flatN (l.take k++List.replicate (l.length - k) ⟨0,0⟩))):=ownKeep' HO.out (fun k hk=>hb1.block k (World.ownsRow.lt HO.out _ hk).2)
   clear hb1 f0 f1
   have cc:∀ j,j < 2→∃ u,w1.cell? ⟨w.heap.size,k * 2+j,none⟩=some u:=fun j hj=>by
    rw [World.ownsRow.cellAt HO1.out (k * 2+j) (by omega)]
    exact ⟨_,List.getElem?_eq_getElem (by rw [flatN_len,hlr];omega)⟩
   have hfz:∀ j,w1.frozen? ⟨w.heap.size,j,none⟩=false:=fun j=>World.ownsRow.frozenAt HO1.out j
   obtain ⟨u0,g0⟩:=cc 0 (by omega)
   obtain ⟨u1,g1⟩:=cc 1 (by omega)
   rw [Nat.add_zero] at g0
   clear cc hlr
   go_wp2
   go_roundw
   case rel=>
    have hs1:=HB1.out.size
    show ∃ k':Nat,_∧_∧Below w.heap.size w (set2 w1 w.heap.size (k * 2) (.int .i64 ta) (.int .i64 tb))∧_ < (set2 w1 w.heap.size (k * 2) (.int .i64 ta) (.int .i64 tb)).heap.size∧World.ownsRow (set2 w1 w.heap.size (k * 2) (.int .i64 ta) (.int .i64 tb)) _ _ _ _ _ _
    refine ⟨k+1,by omega,by go_num,set2_below (HB.out.trans (HB1.out.mono (by omega))) (Nat.le_refl _),by rw [set2_size];omega,?_⟩
    have p:=(World.ownsRow.stored (World.ownsRow.stored HO1.out (k * 2) (.int .i64 ta)).1 (k * 2+1) (.int .i64 tb)).1
    have e3:l.length - k=(l.length - (k+1))+1:=by omega
    have e4:l.take (k+1)=l.take k++[⟨ta,tb⟩]:=by rw [List.take_add_one,HT.out];rfl
    have e5:(l.take k).length=k:=by rw [List.length_take];omega
    have fp:=flatN_put (l.take k) (List.replicate (l.length - (k+1)) ⟨0,0⟩) ⟨0,0⟩ ⟨ta,tb⟩
    rw [e5] at fp
    rw [e3,List.replicate_succ,fp] at p
    rw [e4,List.append_assoc]
    exact p
   case measure=>simp [intOf];omega
  ·go_wp2
   go_ret
   have:k=l.length:=by omega
   subst this
   have h1:=HO.out
   simp only [List.take_length,Nat.sub_self,List.replicate_zero,List.append_nil] at h1
   exact ⟨rfl,h1,HB.out,hsz⟩
theorem szNoteS_all (s:Option Addr) (n c:Nat) (q:Int) (w:World) (hn:n≤maxLen) (hq:0≤q) (hq':q≤1048576):Calls Tryz.prog 21 #[.slice s n c,.int .i64 q] w fun e w'=>e=.returned (.int .i64 (if q < n then -1 else q - (n:Int)))∧w'=w:=by
 unfold maxLen at hn
 by_cases h:q < n
 ·rw [if_pos h]
  have h1:q - (n:Int) < 0:=by omega
  go_enter Tryz.func21,Tryz.ntmps21
  go_wp2
  go_ret
  exact ⟨rfl,rfl⟩
 ·rw [if_neg h]
  have h1:¬ q - (n:Int) < 0:=by omega
  go_enter Tryz.func21,Tryz.ntmps21
  go_wp2
  go_ret
  exact ⟨rfl,rfl⟩
theorem eqNote_alike (a b:Int) (w:World):Calls Tryz.prog 74 #[.agg #[.int .i64 a,.int .i64 b],.agg #[.int .i64 a,.int .i64 b]] w fun e w'=>e=.returned (.bool true)∧Below w.heap.size w w':=by
 go_enter Tryz.func74,Tryz.ntmps74
 go_wp2
 go_ret
 exact ⟨rfl,((Below.refl _ _).alloc (Nat.le_refl _) _).alloc (by simp) _⟩
set_option maxHeartbeats 2000000 in
theorem eqNoteS_alike (s s' : Option Addr) (c c' lo hi lo' hi' : Nat) (l : List ND) (w : World) (h : NtsR w lo hi s l) (h' : NtsR w lo' hi' s' l) (hB : hi ≤ w.heap.size) (hB' : hi' ≤ w.heap.size) (hl : l.length ≤ 2000000) :
  Calls Tryz.prog 37 #[.slice s l.length c,.slice s' l.length c'] w fun e w'=>e=.returned (.bool true)∧Below w.heap.size w w':=by
 have H1:Hid (NtsR w lo hi s l):=h
 have H2:Hid (NtsR w lo' hi' s' l):=h'
 clear h h'
 have hne:((l.length:Int) !=(l.length:Int))=false:=by simp
 go_enter Tryz.func37,Tryz.ntmps37
 go_wp2
 go_loopw [5] (fun i wr=>∃ k:Nat,k≤l.length∧i=.int .i64 k∧Below w.heap.size w wr) (fun i _=>l.length - (intOf i).toNat)
 case atStart=>exact ⟨0,Nat.zero_le _,rfl,Below.refl _ _⟩
 case round=>
  obtain ⟨k,hk,rfl,hb⟩:=hrel
  have HB:Hid (Below w.heap.size w wr):=hb
  have hsz:=hb.size
  clear hb
  by_cases hlt:k < l.length
  ·obtain ⟨t,ht⟩:∃ t,l[k]? =some t:=⟨_,List.getElem?_eq_getElem hlt⟩
   obtain ⟨g,off,hs,hg,f0,f1⟩:∃ g off,s=some ⟨g,off,none⟩∧g < w.heap.size∧NtR wr g (off+k * 2) t:=by
    rcases H1.out with h | ⟨g,off,a,b,d,e⟩
    ·rw [h] at hlt;simp at hlt
    ·exact ⟨g,off,a,by omega,(HB.out.cell (p:=⟨g,_,none⟩) (by show g < _;omega)).trans (e k t ht).1,(HB.out.cell (p:=⟨g,_,none⟩) (by show g < _;omega)).trans (e k t ht).2⟩
   obtain ⟨g',off',hs',hg',f0',f1'⟩:∃ g off,s'=some ⟨g,off,none⟩∧g < w.heap.size∧NtR wr g (off+k * 2) t:=by
    rcases H2.out with h | ⟨g,off,a,b,d,e⟩
    ·rw [h] at hlt;simp at hlt
    ·exact ⟨g,off,a,by omega,(HB.out.cell (p:=⟨g,_,none⟩) (by show g < _;omega)).trans (e k t ht).1,(HB.out.cell (p:=⟨g,_,none⟩) (by show g < _;omega)).trans (e k t ht).2⟩
   subst hs
   subst hs'
   obtain ⟨ta,tb⟩:=t
   simp only at f0 f1 f0' f1'
   clear ht
   have b0:(0:Int)≤(k:Int):=by omega
   have b1:(k:Int) < (l.length:Int):=by omega
   go_wp2_with fail
   first | go_region_with (go_at_call 74;refine (eqNote_alike ta tb _).mono ?_;rintro e w1 ⟨rfl,hb1⟩) | fail
   all_goals
    have HB1:Hid (Below wr.heap.size wr w1):=⟨hb1.os,hb1.tape,hb1.output,hb1.size,hb1.block⟩
    clear hb1
    go_wp2
    go_roundw
    case rel=>exact ⟨k+1,by omega,by go_num,HB.out.trans (HB1.out.mono hsz)⟩
    case measure=>simp [intOf];omega
  ·go_wp2
   go_ret
   exact ⟨rfl,HB.out⟩
end
end Go.Proofs.YtepfpbcjklaenaaGreat
