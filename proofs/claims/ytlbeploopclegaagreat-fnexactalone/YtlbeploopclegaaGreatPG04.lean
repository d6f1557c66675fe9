/- Rows of records, each of integers and of rows of integers, as they lie in memory with the places of their integers; how marks go over them. No condition. How great memories are counted. No condition but the lists' own bounds. How great machines are counted. No condition but the lists' own bounds. -/
import Derived.Test.YtlbeploopclegaaGreatPG00
import Derived.Test.YtlbeploopclegaaGreatPG01
import Derived.Test.YtlbeploopclegaaGreatPG03
import Derived.Test.YtlbeploopclegaaGreatPG02
namespace Go.Proofs.YtlbeploopclegaaGreat
section
set_option linter.unusedSimpArgs false
set_option linter.unusedVariables false
set_option maxRecDepth 100000
open Go.RowKit
inductive FS where
 | i
 | r (x:VS) (e:Nat)
inductive FV where
 | i (z:Int)
 | r (l:List Int)
def FS.kind:FS→Option Nat
 | .i=>none
 | .r _ e=>some e
def VS.wide (x:VS) (e:Nat):VS:=⟨x.s,x.n * e,x.c⟩
def fAs (a:Addr):FS→List Addr
 | .i=>[a]
 | .r x e=>vAs (x.wide e)
def recAs (s:Option Addr):List FS→Nat→List Addr
 | [],_=>[]
 | f::r,j=>fAs (adr s j) f++recAs s r (j+1)
def gAs (s:Option Addr) (wd:Nat):List (List FS)→Nat→List Addr
 | [],_=>[]
 | f::r,k=>recAs s f (k * wd)++gAs s wd r (k+1)
def FO (w:World) (lo hi:Nat) (a:Addr):FS→FV→Prop
 | .i,.i z=>w.cell? a=some (.int .i64 z)∧w.frozen? a=false∧lo≤a.block∧a.block < hi
 | .r x e,.r l=>w.cell? a=some (.slice x.s x.n x.c)∧(lo≤a.block∧a.block < hi)∧VO w lo hi (x.wide e) l
 | _,_=>False
def FSh (w:World) (lo hi:Nat) (a:Addr):FS→Prop
 | .i=>IntC w lo hi a
 | .r x e=>w.cell? a=some (.slice x.s x.n x.c)∧(lo≤a.block∧a.block < hi)∧(x.n * e=0∨Somewhere x.s)∧∀ b∈vAs (x.wide e),IntC w lo hi b
structure GO (w:World) (lo hi:Nat) (s:Option Addr) (T:List (Option Nat)) (R:List (List FS)) (L:List (List FV)):Prop where
 n:R.length=L.length
 rok:L=[]∨Somewhere s
 t:∀ (k:Nat) (rec:List FS),R[k]? =some rec→rec.map FS.kind=T
 c:∀ (k:Nat) (rec:List FS) (vals:List FV),R[k]? =some rec→L[k]? =some vals→rec.length=vals.length∧∀ (j:Nat) (f:FS) (v:FV),rec[j]? =some f→vals[j]? =some v→FO w lo hi (adr s (k * T.length+j)) f v
 o:∀ rec∈R,∀ x e,FS.r x e∈rec→∀ a∈vAs (x.wide e),∀ g o,s=some ⟨g,o,none⟩→a.block≠g
 d:(gAs s T.length R 0).Nodup
structure GSh (w:World) (lo hi:Nat) (s:Option Addr) (T:List (Option Nat)) (R:List (List FS)):Prop where
 rok:R=[]∨Somewhere s
 t:∀ (k:Nat) (rec:List FS),R[k]? =some rec→rec.map FS.kind=T
 c:∀ (k:Nat) (rec:List FS) (j:Nat) (f:FS),R[k]? =some rec→rec[j]? =some f→FSh w lo hi (adr s (k * T.length+j)) f
 d:(gAs s T.length R 0).Nodup
theorem mem_recAs {s:Option Addr} {a:Addr}:∀ {rec:List FS} {j:Nat},a∈recAs s rec j↔∃ (i:Nat) (f:FS),rec[i]? =some f∧a∈fAs (adr s (j+i)) f
 | [],j=>by simp [recAs]
 | f::r,j=>by
  simp only [recAs,List.mem_append,mem_recAs (rec:=r) (j:=j+1)]
  constructor
  ·rintro (h | ⟨i,f',h,e⟩)
   ·exact ⟨0,f,rfl,h⟩
   ·exact ⟨i+1,f',by simpa using h,by rw [show j+(i+1)=j+1+i by omega];exact e⟩
  ·rintro ⟨i,f',h,e⟩
   rcases Nat.eq_zero_or_pos i with rfl | hp
   ·simp at h
    subst h
    exact .inl e
   ·obtain ⟨m,rfl⟩:∃ m,i=m+1:=⟨i - 1,by omega⟩
    exact .inr ⟨m,f',by simpa using h,by rw [show j+1+m=j+(m+1) by omega];exact e⟩
theorem mem_gAs {s:Option Addr} {wd:Nat} {a:Addr}:∀ {R:List (List FS)} {k:Nat},a∈gAs s wd R k↔∃ (i:Nat) (rec:List FS) (j:Nat) (f:FS),R[i]? =some rec∧rec[j]? =some f∧a∈fAs (adr s ((k+i) * wd+j)) f
 | [],k=>by simp [gAs]
 | r0::r,k=>by
  simp only [gAs,List.mem_append,mem_gAs (R:=r) (k:=k+1),mem_recAs]
  constructor
  ·rintro (⟨j,f,h,e⟩ | ⟨i,rec,j,f,h,h',e⟩)
   ·exact ⟨0,r0,j,f,rfl,h,by simpa using e⟩
   ·exact ⟨i+1,rec,j,f,by simpa using h,h',by rw [show k+(i+1)=k+1+i by omega];exact e⟩
  ·rintro ⟨i,rec,j,f,h,h',e⟩
   rcases Nat.eq_zero_or_pos i with rfl | hp
   ·simp at h
    subst h
    exact .inl ⟨j,f,h',by simpa using e⟩
   ·obtain ⟨m,rfl⟩:∃ m,i=m+1:=⟨i - 1,by omega⟩
    exact .inr ⟨m,rec,j,f,by simpa using h,h',by rw [show k+1+m=k+(m+1) by omega];exact e⟩
theorem gAs_append (s:Option Addr) (wd:Nat) (b:List (List FS)):∀ (a:List (List FS)) (k:Nat),gAs s wd (a++b) k=gAs s wd a k++gAs s wd b (k+a.length)
 | [],k=>by simp [gAs]
 | y::r,k=>by
  have e:k+1+r.length=k+(r.length+1):=by omega
  simp [gAs,gAs_append s wd b r (k+1),e]
theorem gAs_split {s:Option Addr} {wd:Nat} {R:List (List FS)} {j:Nat} {x:List FS} (h:R[j]? =some x):gAs s wd R 0=gAs s wd (R.take j) 0++(recAs s x (j * wd)++gAs s wd (R.drop (j+1)) (j+1)):=by
 have hj:=(List.getElem?_eq_some_iff.1 h).1
 have e:R=R.take j++(x::R.drop (j+1)):=by
  rw [← (List.getElem?_eq_some_iff.1 h).2,← List.drop_eq_getElem_cons hj,List.take_append_drop]
 have tl:(R.take j).length=j:=by simp;omega
 have h1:=gAs_append s wd (x::R.drop (j+1)) (R.take j) 0
 rw [← e,tl,Nat.zero_add] at h1
 exact h1
theorem gAs_take {s:Option Addr} {wd:Nat} {R:List (List FS)} {j:Nat} {x:List FS} (h:R[j]? =some x):gAs s wd (R.take (j+1)) 0=gAs s wd (R.take j) 0++recAs s x (j * wd):=by
 have hj:=(List.getElem?_eq_some_iff.1 h).1
 have tl:(R.take j).length=j:=by simp;omega
 rw [List.take_add_one,h,Option.toList_some,gAs_append,tl,Nat.zero_add]
 simp [gAs]
theorem gAs_long {s:Option Addr} {wd:Nat} {R:List (List FS)} {j:Nat} {x:List FS} (h:R[j]? =some x):(gAs s wd (R.take j) 0).length+(recAs s x (j * wd)).length≤(gAs s wd R 0).length:=by
 rw [gAs_split h]
 simp
theorem FO.keep {w w':World} {lo hi:Nat} {a:Addr} {f:FS} {v:FV} (h:FO w lo hi a f v) (hb:Keep lo hi w w'):FO w' lo hi a f v:=by
 cases f<;>cases v<;>first | exact h | skip
 ·obtain ⟨h1,h2,h3,h4⟩:=h
  exact ⟨(hb.cell h3 h4).trans h1,(hb.frozen h3 h4).trans h2,h3,h4⟩
 ·obtain ⟨h1,⟨h3,h4⟩,h2⟩:=h
  exact ⟨(hb.cell h3 h4).trans h1,⟨h3,h4⟩,h2.keep hb⟩
theorem FO.mono {w:World} {lo hi lo' hi':Nat} {a:Addr} {f:FS} {v:FV} (h:FO w lo hi a f v) (p:lo'≤lo) (q:hi≤hi'):FO w lo' hi' a f v:=by
 cases f<;>cases v<;>first | exact h | skip
 ·obtain ⟨h1,h2,h3,h4⟩:=h
  exact ⟨h1,h2,by omega,by omega⟩
 ·obtain ⟨h1,⟨h3,h4⟩,h2⟩:=h
  exact ⟨h1,⟨by omega,by omega⟩,h2.mono p q⟩
theorem GO.keep {w w':World} {lo hi:Nat} {s:Option Addr} {T:List (Option Nat)} {R:List (List FS)} {L:List (List FV)} (h:GO w lo hi s T R L) (hb:Keep lo hi w w'):GO w' lo hi s T R L:=
 ⟨h.n,h.rok,h.t,fun k rec vals hr hl=>⟨(h.c k rec vals hr hl).1,fun j f v hf hv=>((h.c k rec vals hr hl).2 j f v hf hv).keep hb⟩,h.o,h.d⟩
theorem GO.mono {w:World} {lo hi lo' hi':Nat} {s:Option Addr} {T:List (Option Nat)} {R:List (List FS)} {L:List (List FV)} (h:GO w lo hi s T R L) (p:lo'≤lo) (q:hi≤hi'):GO w lo' hi' s T R L:=
 ⟨h.n,h.rok,h.t,fun k rec vals hr hl=>⟨(h.c k rec vals hr hl).1,fun j f v hf hv=>((h.c k rec vals hr hl).2 j f v hf hv).mono p q⟩,h.o,h.d⟩
theorem GO.nil (w:World) (lo hi:Nat) (s:Option Addr) (T:List (Option Nat)):GO w lo hi s T [] []:=
 ⟨rfl,.inl rfl,fun k rec h=>by simp at h,fun k rec vals h=>by simp at h,fun rec h=>by simp at h,by simp [gAs]⟩
theorem VO.intc {w:World} {lo hi:Nat} {x:VS} {l:List Int} (h:VO w lo hi x l) {a:Addr} (ha:a∈vAs x):IntC w lo hi a:=by
 have hb:=h.blk ha
 obtain ⟨i,hi',rfl⟩:=mem_vAs.1 ha
 rcases h.c with e | ⟨g,o,hs,h1,h2,hc⟩
 ·have:=h.n;rw [e] at this;simp at this;omega
 ·obtain ⟨c1,c2⟩:=hc i (by rw [← h.n];exact hi')
  rw [hs] at hb ⊢
  exact ⟨⟨_,c1⟩,c2,hb.1,hb.2⟩
theorem FO.sh {w:World} {lo hi:Nat} {a:Addr} {f:FS} {v:FV} (h:FO w lo hi a f v):FSh w lo hi a f:=by
 cases f<;>cases v<;>first | exact False.elim h | skip
 ·obtain ⟨h1,h2,h3,h4⟩:=h
  exact ⟨⟨_,h1⟩,h2,h3,h4⟩
 ·obtain ⟨h1,h34,h2⟩:=h
  refine ⟨h1,h34,?_,fun b hb=>h2.intc hb⟩
  rcases h2.c with e | ⟨g,o,hs,-⟩
  ·have:=h2.n;rw [e] at this;exact .inl this
  ·exact .inr ⟨g,o,hs⟩
theorem FSh.int {w:World} {lo hi:Nat} {a b:Addr} {f:FS} (h:FSh w lo hi a f) (hb:b∈fAs a f):IntC w lo hi b:=by
 cases f with
 | i=>simp [fAs] at hb;subst hb;exact h
 | r x e=>exact h.2.2.2 b hb
theorem GSh.int {w:World} {lo hi:Nat} {s:Option Addr} {T:List (Option Nat)} {R:List (List FS)} (h:GSh w lo hi s T R):∀ a∈gAs s T.length R 0,IntC w lo hi a:=fun a ha=>by
 obtain ⟨i,rec,j,f,h1,h2,h3⟩:=mem_gAs.1 ha
 rw [Nat.zero_add] at h3
 exact (h.c i rec j f h1 h2).int h3
theorem GO.sh {w:World} {lo hi:Nat} {s:Option Addr} {T:List (Option Nat)} {R:List (List FS)} {L:List (List FV)} (h:GO w lo hi s T R L):GSh w lo hi s T R:=by
 refine ⟨?_,h.t,fun k rec j f hr hf=>?_,h.d⟩
 ·rcases h.rok with e | e
  ·have:=h.n;rw [e] at this;exact .inl (List.length_eq_zero_iff.1 (by simpa using this))
  ·exact .inr e
 ·obtain ⟨vals,hv⟩:=at_same h.n.symm hr
  obtain ⟨h1,h2⟩:=h.c k rec vals hr hv
  obtain ⟨v,hv'⟩:=at_same h1.symm hf
  exact (h2 j f v hf hv').sh
theorem GO.blk {w:World} {lo hi:Nat} {s:Option Addr} {T:List (Option Nat)} {R:List (List FS)} {L:List (List FV)} (h:GO w lo hi s T R L) {a:Addr} (ha:a∈gAs s T.length R 0):lo≤a.block∧a.block < hi:=by
 obtain ⟨-,-,h3,h4⟩:=h.sh.int a ha
 exact ⟨h3,h4⟩
theorem FSh.keep {w w':World} {lo hi:Nat} {a:Addr} {f:FS} (h:FSh w lo hi a f) (hb:Keep lo hi w w'):FSh w' lo hi a f:=by
 cases f with
 | i=>exact IntC.keep h hb
 | r x e=>exact ⟨(hb.cell h.2.1.1 h.2.1.2).trans h.1,h.2.1,h.2.2.1,fun b hm=>(h.2.2.2 b hm).keep hb⟩
theorem GSh.keep {w w':World} {lo hi:Nat} {s:Option Addr} {T:List (Option Nat)} {R:List (List FS)} (h:GSh w lo hi s T R) (hb:Keep lo hi w w'):GSh w' lo hi s T R:=
 ⟨h.rok,h.t,fun k rec j f hr hf=>(h.c k rec j f hr hf).keep hb,h.d⟩
theorem Wrote.fsh {A:List Addr} {q:Int} {w w':World} (h:Wrote A q w w') (hA:∀ a∈A,∃ z,w.cell? a=some (.int .i64 z)) {lo hi:Nat} {a:Addr} {f:FS} (hs:FSh w lo hi a f):FSh w' lo hi a f:=by
 cases f with
 | i=>exact h.intc hs
 | r x e=>exact ⟨h.slice hA hs.1,hs.2.1,hs.2.2.1,fun b hm=>h.intc (hs.2.2.2 b hm)⟩
theorem Wrote.gsh {A:List Addr} {q:Int} {w w':World} (h:Wrote A q w w') (hA:∀ a∈A,∃ z,w.cell? a=some (.int .i64 z)) {lo hi:Nat} {s:Option Addr} {T:List (Option Nat)} {R:List (List FS)} (hs:GSh w lo hi s T R):GSh w' lo hi s T R:=
 ⟨hs.rok,hs.t,fun k rec j f hr hf=>h.fsh hA (hs.c k rec j f hr hf),hs.d⟩
/- a record put behind a row -/
theorem GO.push {w w2 : World} {lo hi : Nat} {s : Option Addr} {T : List (Option Nat)} {R : List (List FS)} {L : List (List FV)} (rec : List FS) (vals : List FV) (h : GO w lo hi s T R L)
  (hs:Somewhere s) (hk:rec.map FS.kind=T) (hl:rec.length=vals.length)
  (hold:∀ (k:Nat) (r:List FS) (v:List FV) (j:Nat) (f:FS) (y:FV),R[k]? =some r→L[k]? =some v→r[j]? =some f→v[j]? =some y→FO w lo hi (adr s (k * T.length+j)) f y→FO w2 lo hi (adr s (k * T.length+j)) f y)
  (hnew:∀ (j:Nat) (f:FS) (v:FV),rec[j]? =some f→vals[j]? =some v→FO w2 lo hi (adr s (L.length * T.length+j)) f v)
  (ho:∀ x e,FS.r x e∈rec→∀ a∈vAs (x.wide e),∀ g o,s=some ⟨g,o,none⟩→a.block≠g)
  (hn:(recAs s rec (L.length * T.length)).Nodup) (hd:∀ a∈gAs s T.length R 0,a∉recAs s rec (L.length * T.length)):GO w2 lo hi s T (R++[rec]) (L++[vals]):=by
 have hlen:=h.n
 have ga:gAs s T.length (R++[rec]) 0=gAs s T.length R 0++recAs s rec (L.length * T.length):=by rw [gAs_append,hlen,Nat.zero_add];simp [gAs]
 refine ⟨by simp [hlen],.inr hs,fun k r hr=>?_,fun k r v hr hv=>?_,fun r hr=>?_,?_⟩
 ·rcases getElem?_push hr with hr | ⟨-,rfl⟩
  ·exact h.t k r hr
  ·exact hk
 ·rcases getElem?_push hr with hr | ⟨e1,rfl⟩
  ·rcases getElem?_push hv with hv | ⟨e2,rfl⟩
   ·refine ⟨(h.c k r v hr hv).1,fun j f y hf hy=>?_⟩
    exact hold k r v j f y hr hv hf hy ((h.c k r v hr hv).2 j f y hf hy)
   ·have:=(List.getElem?_eq_some_iff.1 hr).1
    omega
  ·rcases getElem?_push hv with hv | ⟨e2,rfl⟩
   ·have:=(List.getElem?_eq_some_iff.1 hv).1
    omega
   ·refine ⟨hl,fun j f y hf hy=>?_⟩
    rw [e2]
    exact hnew j f y hf hy
 ·rcases List.mem_append.1 hr with hr | hr
  ·exact h.o r hr
  ·simp at hr
   subst hr
   exact ho
 ·rw [ga]
  refine List.nodup_append.2 ⟨h.d,hn,fun a ha b hb e=>?_⟩
  subst e
  exact hd a ha hb
end
section
set_option linter.unusedSimpArgs false
set_option linter.unusedVariables false
set_option maxRecDepth 100000
open Go.RowKit
set_option maxHeartbeats 400000 in
theorem szWrite_all (v : Int) (s : Option Addr) (n c : Nat) (q : Int) (w : World) (hn : n ≤ maxLen) (hq : 0 ≤ q) (hq' : q ≤ 1048576) :
  Calls Tryz.prog 115 #[.agg #[.int .i64 v,.slice s n c],.int .i64 q] w fun e w'=>e=.returned (.int .i64 (if q < n then -1 else q - (n:Int)))∧Below w.heap.size w w':=by
 by_cases h:q < n
 ·rw [if_pos h]
  go_enter Tryz.func115,Tryz.ntmps115
  go_wp2_with (go_at_call 87;refine (szIntS_any _ _ _ _ _ hn hq hq').mono ?_;rintro e w' ⟨rfl,hw⟩;have hw':=hw.symm;clear hw;subst hw';rw [if_pos h])
  go_ret
  exact ⟨rfl,(Below.refl _ _).alloc (Nat.le_refl _) _⟩
 ·rw [if_neg h]
  have hnn:¬ q - (n:Int) < 0:=by omega
  go_enter Tryz.func115,Tryz.ntmps115
  go_wp2_with (go_at_call 87;refine (szIntS_any _ _ _ _ _ hn hq hq').mono ?_;rintro e w' ⟨rfl,hw⟩;have hw':=hw.symm;clear hw;subst hw';rw [if_neg h])
  go_ret
  exact ⟨rfl,(Below.refl _ _).alloc (Nat.le_refl _) _⟩
set_option maxHeartbeats 1000000 in
theorem szWriteS_any (s : Option Addr) (c lo hi : Nat) (l : List WD) (q : Int) (w : World) (h : WsR w lo hi s l) (hB : hi ≤ w.heap.size) (hn : l.length ≤ maxLen) (hls : ∀ (i : Nat) (t : WD), l[i]? = some t → t.vw.length ≤ maxLen) (hq : 0 ≤ q) (hq' : q ≤ 1048576) :
  Calls Tryz.prog 88 #[.slice s l.length c,.int .i64 q] w fun e w'=>(∃ v:Int,e=.returned (.int .i64 v)∧(v < 0∨(0≤v∧v=q - ((l.length:Int)+szV l))))∧Below w.heap.size w w':=by
 unfold maxLen at hn
 have HLS:Hid (∀ (i:Nat) (t:WD),l[i]? =some t→t.vw.length≤maxLen):=hls
 have HC:Hid (WsR w lo hi s l):=h
 clear hls h
 by_cases hb:q < (l.length:Int)
 ·have h1:q - (l.length:Int) < 0:=by omega
  go_enter Tryz.func88,Tryz.ntmps88
  go_wp2
  go_ret
  exact ⟨⟨-1,rfl,.inl (by omega)⟩,Below.refl _ _⟩
 ·have h1:¬ q - (l.length:Int) < 0:=by omega
  go_enter Tryz.func88,Tryz.ntmps88
  go_wp2
  go_loopw [1,5] (fun a i wr=>∃ (k:Nat) (v:Int),k≤l.length∧i=.int .i64 k∧a=.int .i64 v∧0≤v∧v≤1048576∧Below w.heap.size w wr∧Hid (v=q - ((l.length:Int)+szV (l.take k)))) (fun _ i _=>l.length - (intOf i).toNat)
  case atStart=>exact ⟨0,_,Nat.zero_le _,rfl,rfl,by omega,by omega,Below.refl _ _,show _=_ by simp [szV]⟩
  case round=>
   obtain ⟨k,v,hk,rfl,rfl,hv,hv',hbl,HD⟩:=hrel
   have HB:Hid (Below w.heap.size w wr):=hbl
   clear hbl
   by_cases hlt:k < l.length
   ·obtain ⟨t,ht⟩:∃ t,l[k]? =some t:=⟨_,List.getElem?_eq_getElem hlt⟩
    obtain ⟨g,off,s1,c1,hs,hg1,hg,f0,f1,-⟩:=(HC.out.keep (Keep.of_below HB.out hB)).at ht
    subst hs
    have hm:=HLS.out k t ht
    have HT:Hid (szV (l.take (k+1))=szV (l.take k)+t.vw.length):=szV_take l k t ht
    obtain ⟨pc,rg⟩:=t
    simp only at f0 f1 hm
    generalize hx:rg.length=n at f1 hm HT
    clear hx ht
    have b0:(0:Int)≤(k:Int):=by omega
    have b1:(k:Int) < (l.length:Int):=by omega
    by_cases hvn:v < (n:Int)
    ·go_wp2_with (go_at_call 115;refine (szWrite_all _ _ _ _ _ _ hm hv hv').mono ?_;rintro e w' ⟨rfl,hw⟩;rw [if_pos hvn])
     go_ret
     exact ⟨⟨-1,rfl,.inl (by omega)⟩,HB.out.trans (hw.mono HB.out.size)⟩
    ·have hnn:¬ v - (n:Int) < 0:=by omega
     go_wp2_with (go_at_call 115;refine (szWrite_all _ _ _ _ _ _ hm hv hv').mono ?_;rintro e w' ⟨rfl,hw⟩;have HW:Hid (Below wr.heap.size wr w'):=hw;clear hw;rw [if_neg hvn])
     go_roundw
     case rel=>
      refine ⟨k+1,_,by omega,by go_num,rfl,by omega,by omega,HB.out.trans (HW.out.mono HB.out.size),?_⟩
      show _=_
      rw [HT.out,HD.out]
      omega
     case measure=>simp [intOf];omega
   ·go_wp2
    go_ret
    have:k=l.length:=by omega
    subst this
    have hd:=HD.out
    rw [List.take_length] at hd
    exact ⟨⟨v,rfl,.inr ⟨hv,hd⟩⟩,HB.out⟩
set_option maxHeartbeats 1000000 in
theorem szWriteSS_any (s : Option Addr) (c lo hi : Nat) (m : List (List WD)) (q : Int) (w : World) (h : MemR w lo hi s m) (hB : hi ≤ w.heap.size) (hls : MLens m) (hq : 0 ≤ q) (hq' : q ≤ 1048576) :
  Calls Tryz.prog 58 #[.slice s m.length c,.int .i64 q] w fun e w'=>(∃ v:Int,e=.returned (.int .i64 v)∧(v < 0∨(0≤v∧v=q - ((m.length:Int)+szR m))))∧Below w.heap.size w w':=by
 have hn:=hls.n
 unfold maxLen at hn
 have HLS:Hid (MLens m):=hls
 have HC:Hid (MemR w lo hi s m):=h
 clear hls h
 by_cases hb:q < (m.length:Int)
 ·have h1:q - (m.length:Int) < 0:=by omega
  go_enter Tryz.func58,Tryz.ntmps58
  go_wp2
  go_ret
  exact ⟨⟨-1,rfl,.inl (by omega)⟩,Below.refl _ _⟩
 ·have h1:¬ q - (m.length:Int) < 0:=by omega
  go_enter Tryz.func58,Tryz.ntmps58
  go_wp2
  go_loopw [1,5] (fun a i wr=>∃ (k:Nat) (v:Int),k≤m.length∧i=.int .i64 k∧a=.int .i64 v∧0≤v∧v≤1048576∧Below w.heap.size w wr∧Hid (v=q - ((m.length:Int)+szR (m.take k)))) (fun _ i _=>m.length - (intOf i).toNat)
  case atStart=>exact ⟨0,_,Nat.zero_le _,rfl,rfl,by omega,by omega,Below.refl _ _,show _=_ by simp [szR]⟩
  case round=>
   obtain ⟨k,v,hk,rfl,rfl,hv,hv',hbl,HD⟩:=hrel
   have HB:Hid (Below w.heap.size w wr):=hbl
   have hsz:=hbl.size
   clear hbl
   by_cases hlt:k < m.length
   ·obtain ⟨t,ht⟩:∃ t,m[k]? =some t:=⟨_,List.getElem?_eq_getElem hlt⟩
    obtain ⟨g,off,s1,c1,hs,hg1,hg,f0,f1⟩:=(HC.out.keep (Keep.of_below HB.out hB)).row ht
    subst hs
    have hm:=HLS.out.r k t ht
    have HM2:Hid (∀ (i:Nat) (x:WD),t[i]? =some x→x.vw.length≤maxLen):=fun i x hx=>HLS.out.v k t i x ht hx
    have HT:Hid (szR (m.take (k+1))=szR (m.take k)+(t.length+szV t)):=szR_take m k t ht
    have HF:Hid (WsR wr lo hi s1 t):=f1
    clear f1 ht
    have b0:(0:Int)≤(k:Int):=by omega
    have b1:(k:Int) < (m.length:Int):=by omega
    go_wp2_with fail
    refine (szWriteS_any s1 c1 lo hi t v wr HF.out (by omega) hm HM2.out hv hv').mono ?_
    rintro e w1 ⟨⟨u,rfl,hu⟩,hb1⟩
    have HB1:Hid (Below w.heap.size w w1):=HB.out.trans (hb1.mono hsz)
    clear hb1
    rcases hu with hu | ⟨hu,hu2⟩
    ·go_wp2
     go_ret
     exact ⟨⟨-1,rfl,.inl (by omega)⟩,HB1.out⟩
    ·have hnn:¬ u < 0:=by omega
     have HU:Hid (u=v - ((t.length:Int)+szV t)):=hu2
     have hu3:u≤1048576:=by omega
     clear hu2
     go_wp2
     go_roundw
     case rel=>
      refine ⟨k+1,_,by omega,by go_num,rfl,by omega,by omega,HB1.out,?_⟩
      show _=_
      rw [HT.out,HU.out,HD.out]
      omega
     case measure=>simp [intOf];omega
   ·go_wp2
    go_ret
    have:k=m.length:=by omega
    subst this
    have hd:=HD.out
    rw [List.take_length] at hd
    exact ⟨⟨v,rfl,.inr ⟨hv,hd⟩⟩,HB.out⟩
end
section
set_option linter.unusedSimpArgs false
set_option linter.unusedVariables false
set_option maxRecDepth 100000
open Go.RowKit
theorem szStepS_all (s:Option Addr) (n c:Nat) (q:Int) (w:World) (hn:n≤maxLen) (hq:0≤q) (hq':q≤1048576):Calls Tryz.prog 56 #[.slice s n c,.int .i64 q] w fun e w'=>e=.returned (.int .i64 (if q < n then -1 else q - (n:Int)))∧w'=w:=by
 unfold maxLen at hn
 by_cases h:q < n
 ·rw [if_pos h]
  have h1:q - (n:Int) < 0:=by omega
  go_enter Tryz.func56,Tryz.ntmps56
  go_wp2
  go_ret
  exact ⟨rfl,rfl⟩
 ·rw [if_neg h]
  have h1:¬ q - (n:Int) < 0:=by omega
  go_enter Tryz.func56,Tryz.ntmps56
  go_wp2
  go_ret
  exact ⟨rfl,rfl⟩
set_option maxHeartbeats 1000000 in
theorem szStepSS_any (s : Option Addr) (c lo hi : Nat) (l : List (List I5)) (q : Int) (w : World) (h : CsR w lo hi s l) (hB : hi ≤ w.heap.size) (hn : l.length ≤ maxLen) (hls : ∀ (i : Nat) (t : List I5), l[i]? = some t → t.length ≤ maxLen) (hq : 0 ≤ q) (hq' : q ≤ 1048576) :
  Calls Tryz.prog 19 #[.slice s l.length c,.int .i64 q] w fun e w'=>(∃ v:Int,e=.returned (.int .i64 v)∧(v < 0∨(0≤v∧v=q - ((l.length:Int)+szC l))))∧Below w.heap.size w w':=by
 unfold maxLen at hn
 have HLS:Hid (∀ (i:Nat) (t:List I5),l[i]? =some t→t.length≤maxLen):=hls
 have HC:Hid (CsR w lo hi s l):=h
 clear hls h
 by_cases hb:q < (l.length:Int)
 ·have h1:q - (l.length:Int) < 0:=by omega
  go_enter Tryz.func19,Tryz.ntmps19
  go_wp2
  go_ret
  exact ⟨⟨-1,rfl,.inl (by omega)⟩,Below.refl _ _⟩
 ·have h1:¬ q - (l.length:Int) < 0:=by omega
  go_enter Tryz.func19,Tryz.ntmps19
  go_wp2
  go_loopw [1,5] (fun a i wr=>∃ (k:Nat) (v:Int),k≤l.length∧i=.int .i64 k∧a=.int .i64 v∧0≤v∧v≤1048576∧Below w.heap.size w wr∧Hid (v=q - ((l.length:Int)+szC (l.take k)))) (fun _ i _=>l.length - (intOf i).toNat)
  case atStart=>exact ⟨0,_,Nat.zero_le _,rfl,rfl,by omega,by omega,Below.refl _ _,show _=_ by simp [szC]⟩
  case round=>
   obtain ⟨k,v,hk,rfl,rfl,hv,hv',hbl,HD⟩:=hrel
   have HB:Hid (Below w.heap.size w wr):=hbl
   clear hbl
   by_cases hlt:k < l.length
   ·obtain ⟨t,ht⟩:∃ t,l[k]? =some t:=⟨_,List.getElem?_eq_getElem hlt⟩
    obtain ⟨g,off,s1,c1,hs,hg1,hg,f1,-⟩:=(HC.out.keep (Keep.of_below HB.out hB)).at ht
    subst hs
    have hm:=HLS.out k t ht
    have HT:Hid (szC (l.take (k+1))=szC (l.take k)+t.length):=szC_take l k t ht
    generalize hx:t.length=n at f1 hm HT
    clear hx ht
    have b0:(0:Int)≤(k:Int):=by omega
    have b1:(k:Int) < (l.length:Int):=by omega
    by_cases hvn:v < (n:Int)
    ·go_wp2_with (go_at_call 56;refine (szStepS_all _ _ _ _ _ hm hv hv').mono ?_;rintro e w' ⟨rfl,hw⟩;have hw':=hw.symm;clear hw;subst hw';rw [if_pos hvn])
     go_ret
     exact ⟨⟨-1,rfl,.inl (by omega)⟩,HB.out⟩
    ·have hnn:¬ v - (n:Int) < 0:=by omega
     go_wp2_with (go_at_call 56;refine (szStepS_all _ _ _ _ _ hm hv hv').mono ?_;rintro e w' ⟨rfl,hw⟩;have hw':=hw.symm;clear hw;subst hw';rw [if_neg hvn])
     go_roundw
     case rel=>
      refine ⟨k+1,_,by omega,by go_num,rfl,by omega,by omega,HB.out,?_⟩
      show _=_
      rw [HT.out,HD.out]
      omega
     case measure=>simp [intOf];omega
   ·go_wp2
    go_ret
    have:k=l.length:=by omega
    subst this
    have hd:=HD.out
    rw [List.take_length] at hd
    exact ⟨⟨v,rfl,.inr ⟨hv,hd⟩⟩,HB.out⟩
set_option maxHeartbeats 400000 in
theorem szCore_all (v v' : Int) (s s' : Option Addr) (n c n' c' : Nat) (q : Int) (w : World) (hn : n ≤ maxLen) (hn' : n' ≤ maxLen) (hq : 0 ≤ q) (hq' : q ≤ 1048576) :
  Calls Tryz.prog 57 #[.agg #[.int .i64 v,.slice s n c,.slice s' n' c',.int .i64 v'],.int .i64 q] w fun e w'=>e=.returned (.int .i64 (if q < ((n+n':Nat):Int) then -1 else q - ((n+n':Nat):Int)))∧Below w.heap.size w w':=by
 by_cases h:q < n
 ·rw [if_pos (by omega)]
  go_enter Tryz.func57,Tryz.ntmps57
  go_wp2_with fail
  refine (szIntS_any s n c q _ hn hq hq').mono ?_
  rintro e w' ⟨rfl,hw⟩
  subst w'
  rw [if_pos h]
  go_wp2
  go_ret
  exact ⟨rfl,(Below.refl _ _).alloc (Nat.le_refl _) _⟩
 ·have hnn:¬ q - (n:Int) < 0:=by omega
  by_cases h2:q - (n:Int) < n'
  ·rw [if_pos (by omega)]
   go_enter Tryz.func57,Tryz.ntmps57
   go_wp2_with fail
   refine (szIntS_any s n c q _ hn hq hq').mono ?_
   rintro e w' ⟨rfl,hw⟩
   subst w'
   rw [if_neg (show ¬ q < (n:Int) by omega)]
   go_wp2_with fail
   refine (szIntS_any s' n' c' (q - (n:Int)) _ hn' (by omega) (by omega)).mono ?_
   rintro e w' ⟨rfl,hw⟩
   subst w'
   rw [if_pos h2]
   go_wp2
   go_ret
   exact ⟨rfl,(Below.refl _ _).alloc (Nat.le_refl _) _⟩
  ·have hnn2:¬ q - (n:Int) - (n':Int) < 0:=by omega
   rw [if_neg (by omega),show q - ((n+n':Nat):Int)=q - n - n' by omega]
   go_enter Tryz.func57,Tryz.ntmps57
   go_wp2_with fail
   refine (szIntS_any s n c q _ hn hq hq').mono ?_
   rintro e w' ⟨rfl,hw⟩
   subst w'
   rw [if_neg (show ¬ q < (n:Int) by omega)]
   go_wp2_with fail
   refine (szIntS_any s' n' c' (q - (n:Int)) _ hn' (by omega) (by omega)).mono ?_
   rintro e w' ⟨rfl,hw⟩
   subst w'
   rw [if_neg (show ¬ q - (n:Int) < (n':Int) by omega)]
   go_wp2
   go_ret
   exact ⟨rfl,(Below.refl _ _).alloc (Nat.le_refl _) _⟩
set_option maxHeartbeats 1000000 in
theorem szCoreS_any (s : Option Addr) (c lo hi : Nat) (l : List KD) (q : Int) (w : World) (h : KsR w lo hi s l) (hB : hi ≤ w.heap.size) (hn : l.length ≤ maxLen) (hls : ∀ (i : Nat) (t : KD), l[i]? = some t → t.regs.length ≤ maxLen ∧ t.vw.length ≤ maxLen) (hq : 0 ≤ q) (hq' : q ≤ 1048576) :
  Calls Tryz.prog 20 #[.slice s l.length c,.int .i64 q] w fun e w'=>(∃ v:Int,e=.returned (.int .i64 v)∧(v < 0∨(0≤v∧v=q - ((l.length:Int)+szK l))))∧Below w.heap.size w w':=by
 unfold maxLen at hn
 have HLS:Hid (∀ (i:Nat) (t:KD),l[i]? =some t→t.regs.length≤maxLen∧t.vw.length≤maxLen):=hls
 have HC:Hid (KsR w lo hi s l):=h
 clear hls h
 by_cases hb:q < (l.length:Int)
 ·have h1:q - (l.length:Int) < 0:=by omega
  go_enter Tryz.func20,Tryz.ntmps20
  go_wp2
  go_ret
  exact ⟨⟨-1,rfl,.inl (by omega)⟩,Below.refl _ _⟩
 ·have h1:¬ q - (l.length:Int) < 0:=by omega
  go_enter Tryz.func20,Tryz.ntmps20
  go_wp2
  go_loopw [1,5] (fun a i wr=>∃ (k:Nat) (v:Int),k≤l.length∧i=.int .i64 k∧a=.int .i64 v∧0≤v∧v≤1048576∧Below w.heap.size w wr∧Hid (v=q - ((l.length:Int)+szK (l.take k)))) (fun _ i _=>l.length - (intOf i).toNat)
  case atStart=>exact ⟨0,_,Nat.zero_le _,rfl,rfl,by omega,by omega,Below.refl _ _,show _=_ by simp [szK]⟩
  case round=>
   obtain ⟨k,v,hk,rfl,rfl,hv,hv',hbl,HD⟩:=hrel
   have HB:Hid (Below w.heap.size w wr):=hbl
   clear hbl
   by_cases hlt:k < l.length
   ·obtain ⟨t,ht⟩:∃ t,l[k]? =some t:=⟨_,List.getElem?_eq_getElem hlt⟩
    obtain ⟨g,off,s1,c1,s2,c2,hs,hg1,hg,f0,f1,f2,f3,-⟩:=(HC.out.keep (Keep.of_below HB.out hB)).at ht
    subst hs
    have hm:=HLS.out k t ht
    have HT:Hid (szK (l.take (k+1))=szK (l.take k)+(t.regs.length+t.vw.length)):=szK_take l k t ht
    obtain ⟨pc,rg,vw,st⟩:=t
    simp only at f0 f1 f2 f3 hm HT
    generalize hx:rg.length=n at f1 hm HT
    generalize hy:vw.length=n' at f2 hm HT
    obtain ⟨hm1,hm2⟩:=hm
    clear hx hy ht
    have b0:(0:Int)≤(k:Int):=by omega
    have b1:(k:Int) < (l.length:Int):=by omega
    by_cases hvn:v < ((n+n':Nat):Int)
    ·go_wp2_with (go_at_call 57;refine (szCore_all _ _ _ _ _ _ _ _ _ _ hm1 hm2 hv hv').mono ?_;rintro e w' ⟨rfl,hw⟩;rw [if_pos hvn])
     go_ret
     exact ⟨⟨-1,rfl,.inl (by omega)⟩,HB.out.trans (hw.mono HB.out.size)⟩
    ·have hnn:¬ v - ((n+n':Nat):Int) < 0:=by omega
     go_wp2_with (go_at_call 57;refine (szCore_all _ _ _ _ _ _ _ _ _ _ hm1 hm2 hv hv').mono ?_;rintro e w' ⟨rfl,hw⟩;have HW:Hid (Below wr.heap.size wr w'):=hw;clear hw;rw [if_neg hvn])
     go_roundw
     case rel=>
      refine ⟨k+1,_,by omega,by go_num,rfl,by omega,by omega,HB.out.trans (HW.out.mono HB.out.size),?_⟩
      show _=_
      rw [HT.out,HD.out]
      omega
     case measure=>simp [intOf];omega
   ·go_wp2
    go_ret
    have:k=l.length:=by omega
    subst this
    have hd:=HD.out
    rw [List.take_length] at hd
    exact ⟨⟨v,rfl,.inr ⟨hv,hd⟩⟩,HB.out⟩
set_option maxHeartbeats 1000000 in
theorem szMemory_le (s : Option Addr) (c lo hi : Nat) (m : List (List WD)) (q : Int) (w : World) (h : MemR w lo hi s m) (hB : hi ≤ w.heap.size) (hls : MLens m) (hq : 0 ≤ q) (hq' : q ≤ 1048576) :
  Calls Tryz.prog 21 #[.agg #[.slice s m.length c],.int .i64 q] w fun e w'=>(∃ v:Int,e=.returned (.int .i64 v)∧(v < 0∨(0≤v∧v=q - ((m.length:Int)+szR m))))∧Below w.heap.size w w':=by
 have HLS:Hid (MLens m):=hls
 have HC:Hid (MemR w lo hi s m):=h
 clear hls h
 go_enter Tryz.func21,Tryz.ntmps21
 go_wp2_with fail
 have k1:Below w.heap.size w (w.alloc (.cells #[.slice s m.length c] 26)):=(Below.refl _ _).alloc (Nat.le_refl _) _
 refine (szWriteSS_any s c lo hi m q _ (HC.out.keep (Keep.of_below k1 hB)) (by simp;omega) HLS.out hq hq').mono ?_
 rintro e w1 ⟨⟨u,rfl,hu⟩,hb1⟩
 have HB1:Hid (Below w.heap.size w w1):=k1.trans (hb1.mono (by simp))
 clear hb1 k1
 rcases hu with hu | ⟨hu,hu2⟩
 ·go_wp2
  go_ret
  exact ⟨⟨-1,rfl,.inl (by omega)⟩,HB1.out⟩
 ·have hnn:¬ u < 0:=by omega
  have HU:Hid (u=q - ((m.length:Int)+szR m)):=hu2
  clear hu2
  go_wp2
  go_ret
  exact ⟨⟨u,rfl,.inr ⟨hu,HU.out⟩⟩,HB1.out⟩
structure B4 (w:World) (b:Nat) (v0 v1 v2 v3:Value):Prop where
 z:b < w.heap.size
 c0:w.cell? ⟨b,0,none⟩=some v0
 c1:w.cell? ⟨b,1,none⟩=some v1
 c2:w.cell? ⟨b,2,none⟩=some v2
 c3:w.cell? ⟨b,3,none⟩=some v3
theorem B4.keep {w w':World} {b:Nat} {v0 v1 v2 v3:Value} (h:B4 w b v0 v1 v2 v3) {B:Nat} (hb:Below B w w') (hB:b < B):B4 w' b v0 v1 v2 v3:=
 ⟨Nat.lt_of_lt_of_le h.z hb.size,(hb.cell (p:=⟨b,0,none⟩) hB).trans h.c0,(hb.cell (p:=⟨b,1,none⟩) hB).trans h.c1,(hb.cell (p:=⟨b,2,none⟩) hB).trans h.c2,(hb.cell (p:=⟨b,3,none⟩) hB).trans h.c3⟩
theorem B4.new (w:World) (v0 v1 v2 v3:Value) (T:TypeId):∃ W,w.alloc (.cells #[v0,v1,v2,v3] T)=W∧B4 W w.heap.size v0 v1 v2 v3∧Below w.heap.size w W∧w.heap.size < W.heap.size:=by
 refine ⟨_,rfl,⟨?_,?_,?_,?_,?_⟩,(Below.refl _ _).alloc (Nat.le_refl _) _,?_⟩<;>simp [go_sem]
set_option maxHeartbeats 2000000 in
theorem szMachine_any (s1 s2 s3 s4 : Option Addr) (c1 c2 c3 c4 lo hi : Nat) (d : MD) (w : World) (h : MaR w lo hi s1 s2 s3 s4 d) (hB : hi ≤ w.heap.size) (hls : MaLens d) :
  Calls Tryz.prog 5 #[.agg #[.slice s1 d.codes.length c1,.slice s2 d.cores.length c2,.slice s3 d.mem.length c3,.slice s4 d.tr.length c4],.int .i64 1048576] w fun e w'=>(∃ v:Int,e=.returned (.int .i64 v)∧(v < 0∨(0≤v∧MaSz d≤1048576∧v≤1048576)))∧Below w.heap.size w w':=by
 have HL:Hid (MaLens d):=hls
 have HR:Hid (MaR w lo hi s1 s2 s3 s4 d):=h
 clear hls h
 go_enter Tryz.func5,Tryz.ntmps5
 go_wp2_with fail
 obtain ⟨W,hW,bx,kb,zb⟩:=B4.new w (.slice s1 d.codes.length c1) (.slice s2 d.cores.length c2) (.slice s3 d.mem.length c3) (.slice s4 d.tr.length c4) 29
 rw [hW]
 clear hW
 have B0:Hid (B4 W w.heap.size _ _ _ _):=bx
 have K0:Hid (Below w.heap.size w W):=kb
 clear bx kb
 refine (szStepSS_any s1 c1 lo hi d.codes 1048576 W (HR.out.keep (Keep.of_below K0.out hB)).1 (by omega) HL.out.cn HL.out.c (by omega) (by omega)).mono ?_
 rintro e w1 ⟨⟨u1,rfl,hu1⟩,hb1⟩
 have B1:Hid (B4 w1 w.heap.size _ _ _ _):=B0.out.keep (hb1.mono (Nat.le_refl _)) (B0.out.z)
 have K1:Hid (Below w.heap.size w w1):=K0.out.trans (hb1.mono (by omega))
 have z1:=hb1.size
 clear hb1
 obtain ⟨-,b0,b1,b2,b3⟩:=B1.out
 have zz1:w.heap.size < w1.heap.size:=by omega
 rcases hu1 with hu1 | ⟨hu1,hx1⟩
 ·go_wp2
  go_ret
  exact ⟨⟨-1,rfl,.inl (by omega)⟩,K1.out⟩
 have hn1:¬ u1 < 0:=by omega
 have hl1:u1≤1048576:=by omega
 have X1:Hid (u1=1048576 - ((d.codes.length:Int)+szC d.codes)):=hx1
 clear hx1
 go_wp2_with fail
 refine (szCoreS_any s2 c2 lo hi d.cores u1 w1 (HR.out.keep (Keep.of_below K1.out hB)).2.1 (by omega) HL.out.kn HL.out.k hu1 hl1).mono ?_
 rintro e w2 ⟨⟨u2,rfl,hu2⟩,hb2⟩
 have B2:Hid (B4 w2 w.heap.size _ _ _ _):=B1.out.keep (hb2.mono (Nat.le_refl _)) (B1.out.z)
 have K2:Hid (Below w.heap.size w w2):=K1.out.trans (hb2.mono (by omega))
 have z2:=hb2.size
 clear hb2
 obtain ⟨-,b0,b1,b2,b3⟩:=B2.out
 have zz2:w.heap.size < w2.heap.size:=by omega
 rcases hu2 with hu2 | ⟨hu2,hx2⟩
 ·go_wp2
  go_ret
  exact ⟨⟨-1,rfl,.inl (by omega)⟩,K2.out⟩
 have hn2:¬ u2 < 0:=by omega
 have hl2:u2≤1048576:=by omega
 have X2:Hid (u2=u1 - ((d.cores.length:Int)+szK d.cores)):=hx2
 clear hx2
 go_wp2_with fail
 refine (szMemory_le s3 c3 lo hi d.mem u2 w2 (HR.out.keep (Keep.of_below K2.out hB)).2.2.1 (by omega) HL.out.m hu2 hl2).mono ?_
 rintro e w3 ⟨⟨u3,rfl,hu3⟩,hb3⟩
 have B3:Hid (B4 w3 w.heap.size _ _ _ _):=B2.out.keep (hb3.mono (Nat.le_refl _)) (B2.out.z)
 have K3:Hid (Below w.heap.size w w3):=K2.out.trans (hb3.mono (by omega))
 have z3:=hb3.size
 clear hb3
 obtain ⟨-,b0,b1,b2,b3⟩:=B3.out
 have zz3:w.heap.size < w3.heap.size:=by omega
 rcases hu3 with hu3 | ⟨hu3,hx3⟩
 ·go_wp2
  go_ret
  exact ⟨⟨-1,rfl,.inl (by omega)⟩,K3.out⟩
 have hn3:¬ u3 < 0:=by omega
 have hl3:u3≤1048576:=by omega
 have X3:Hid (u3=u2 - ((d.mem.length:Int)+szR d.mem)):=hx3
 clear hx3
 go_wp2_with fail
 refine (szNoteS_all s4 d.tr.length c4 u3 w3 HL.out.t hu3 hl3).mono ?_
 rintro e w4 ⟨rfl,hw4⟩
 subst w4
 by_cases ht:u3 < (d.tr.length:Int)
 ·rw [if_pos ht]
  go_wp2
  go_ret
  exact ⟨⟨-1,rfl,.inl (by omega)⟩,K3.out⟩
 ·rw [if_neg ht]
  have hn4:¬ u3 - (d.tr.length:Int) < 0:=by omega
  have HF:Hid (MaSz d≤1048576):=by
   have a:=X1.out;have b:=X2.out;have c:=X3.out
   show MaSz d≤1048576
   unfold MaSz
   omega
  go_wp2
  go_ret
  exact ⟨⟨_,rfl,.inr ⟨by omega,HF.out,by omega⟩⟩,K3.out⟩
end
end Go.Proofs.YtlbeploopclegaaGreat
