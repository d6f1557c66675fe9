/- How the laws copy a list of steps into new memory that may be written. Conditions: lists of at most 1048576 steps. Rows of steps, of cores and of notes as rows of records; boxes of four cells that may be written. No condition. How the laws copy machines into new memory that may be written. Conditions: they are counted. How the laws copy cores into new memory that may be written. Conditions: they are counted. Machines that may be written, and how the laws copy one. Conditions: it is counted. Boxes of four cells that a law keeps. No condition. The cursor over a draw's bytes: each function that draws a number turns the cursor's own block alone, and its number lies within its bounds. Conditions: the cursor and its bytes lie in memory as the reading says. A region that draws its order, whose first operations only read and whose others come one behind the other: one walk of the first ones, in the order of the text, and then the others. No condition. Append of one integer, of a row of integers, onto a row that a call has made. Conditions: fewer than 2^30 of them. -/
import Derived.Test.YtlbeploopclegaaGreatQG00
import Derived.Test.YtlbeploopclegaaGreatQG01
import Derived.Test.YtlbeploopclegaaGreatQG02
import Derived.Test.YtlbeploopclegaaGreatQG03
import Derived.Test.YtlbeploopclegaaGreatChecked
import Derived.WalkKit
import Derived.KernelRfl
import Derived.WalkSpells
import Derived.WalkLawsBesides
import Derived.Deep.QuietTactic
import Derived.BigQuiet
import Derived.Laws.AppendOwnNone
import Derived.BigRegion
import Derived.Deep.RegionLaw
import Derived.Deep.RegionHeld3
namespace Go.Proofs.YtlbeploopclegaaGreat
section
set_option linter.unusedSimpArgs false
set_option linter.unusedVariables false
set_option maxRecDepth 100000
section
open Go.RowKit
end
section
open Go.RowKit
def fl5:List I5→List Int
 | []=>[]
 | x::r=>[x.o,x.r,x.a,x.b,x.n]++fl5 r
theorem fl5_len:∀ l:List I5,(fl5 l).length=l.length * 5
 | []=>rfl
 | x::r=>by simp [fl5,fl5_len r];omega
theorem fl5_at:∀ (l:List I5) (i:Nat) (x:I5),l[i]? =some x→(fl5 l)[i * 5]? =some x.o∧(fl5 l)[i * 5+1]? =some x.r∧(fl5 l)[i * 5+2]? =some x.a∧(fl5 l)[i * 5+3]? =some x.b∧(fl5 l)[i * 5+4]? =some x.n
 | [],i,x,h=>by simp at h
 | y::r,0,x,h=>by
  simp at h
  subst h
  exact ⟨rfl,rfl,rfl,rfl,rfl⟩
 | y::r,i+1,x,h=>by
  have h':r[i]? =some x:=by simpa using h
  have e:=fl5_at r i x h'
  have e0:(i+1) * 5=i * 5+5:=by omega
  rw [e0]
  exact e
def codeV (l:List I5):List FV:=[.r (fl5 l)]
def coreV (k:KD):List FV:=[.i k.pc,.r k.regs,.r k.vw,.i k.st]
def TC:List (Option Nat):=[some 5]
def TK:List (Option Nat):=[none,some 1,some 1,none]
def fl2:List ND→List Int
 | []=>[]
 | x::r=>[x.who,x.v]++fl2 r
theorem fl2_len:∀ l:List ND,(fl2 l).length=l.length * 2
 | []=>rfl
 | x::r=>by simp [fl2,fl2_len r];omega
theorem flatN_fl2:∀ l:List ND,flatN l=(fl2 l).map (Value.int .i64)
 | []=>rfl
 | x::r=>by simp [flatN,fl2,flatN_fl2 r]
theorem wide_one (x:VS):x.wide 1=x:=by cases x;simp [VS.wide]
/- a row that is owned whole -/
theorem own_vo {w:World} {base n size:Nat} {e:TypeId} {v:Value} {l:List Int} (h:w.ownsRow base e size v n (l.map (Value.int .i64))) (hl:l.length=n * size):∃ s c,v=.slice s n c∧VO w base w.heap.size ((⟨s,n,c⟩:VS).wide size) l:=by
 rcases Nat.eq_zero_or_pos n with h0 | hpos
 ·subst h0
  obtain ⟨s,c,e⟩:=ownSl h
  exact ⟨s,c,e,⟨by simp [VS.wide,hl],.inl (List.length_eq_zero_iff.1 (by simpa using hl))⟩⟩
 ·obtain ⟨g,cap,rfl,-⟩:=World.ownsRow.form h hpos
  have hlt:=World.ownsRow.lt h g rfl
  refine ⟨_,_,rfl,⟨by simp [VS.wide,hl],.inr ⟨g,0,rfl,hlt.1,hlt.2,fun i hi=>?_⟩⟩⟩
  rw [Nat.zero_add]
  refine ⟨?_,World.ownsRow.frozenAt h i⟩
  rw [World.ownsRow.cellAt h i (by omega),List.getElem?_map,List.getD_eq_getElem?_getD,List.getElem?_eq_getElem hi]
  rfl
theorem OwnD.vo {w:World} {base n c:Nat} {s:Option Addr} {l:List ND} (h:OwnD w base (.slice s n c) l) (hn:n=l.length):VO w base w.heap.size ((⟨s,n,c⟩:VS).wide 2) (fl2 l):=by
 subst hn
 unfold OwnD at h
 rw [flatN_fl2] at h
 obtain ⟨s',c',e,hv⟩:=own_vo h (fl2_len l)
 injection e with e1 e2 e3
 subst e1 e3
 exact hv
/- reading what is owned -/
theorem VO.insR {w:World} {lo hi:Nat} {s:Option Addr} {c:Nat} {l:List I5} (h:VO w lo hi ((⟨s,l.length,c⟩:VS).wide 5) (fl5 l)):InsR w lo hi s l:=by
 rcases h.c with e | ⟨g,o,hs,h1,h2,hc⟩
 ·have:=fl5_len l
  rw [e] at this
  exact .inl (List.length_eq_zero_iff.1 (by simp at this;omega))
 ·refine .inr ⟨g,o,hs,h1,h2,fun i hi=>?_⟩
  have hx:l[i]? =some (l.getD i z5):=by rw [List.getD_eq_getElem?_getD,List.getElem?_eq_getElem hi];rfl
  obtain ⟨e0,e1,e2,e3,e4⟩:=fl5_at l i _ hx
  have q:∀ j,j < 5→w.cell? ⟨g,o+i * 5+j,none⟩=some (.int .i64 ((fl5 l).getD (i * 5+j) 0)):=fun j hj=>by
   have:=(hc (i * 5+j) (by rw [fl5_len];omega)).1
   rw [← Nat.add_assoc] at this
   exact this
  have q0:=q 0 (by omega)
  have q1:=q 1 (by omega)
  have q2:=q 2 (by omega)
  have q3:=q 3 (by omega)
  have q4:=q 4 (by omega)
  rw [List.getD_eq_getElem?_getD] at q0 q1 q2 q3 q4
  rw [Nat.add_zero,Nat.add_zero,e0] at q0
  rw [e1] at q1
  rw [e2] at q2
  rw [e3] at q3
  rw [e4] at q4
  exact ⟨q0,q1,q2,q3,q4⟩
theorem kindC {rec:List FS} (h:rec.map FS.kind=TC):∃ x,rec=[.r x 5]:=by
 match rec,h with
 | [.r x e],h=>
  simp [TC,FS.kind] at h
  exact ⟨x,by rw [h]⟩
 | [.i],h=>simp [TC,FS.kind] at h
 | [],h=>simp [TC] at h
 | _::_::_,h=>simp [TC] at h
theorem kindK {rec:List FS} (h:rec.map FS.kind=TK):∃ x y,rec=[.i,.r x 1,.r y 1,.i]:=by
 match rec,h with
 | [.i,.r x e,.r y e',.i],h=>
  simp [TK,FS.kind] at h
  exact ⟨x,y,by rw [h.1,h.2]⟩
 | [],h=>simp [TK] at h
 | [_],h=>simp [TK] at h
 | [_,_],h=>simp [TK] at h
 | [_,_,_],h=>simp [TK] at h
 | .r _ _::_::_::_::_,h=>simp [TK,FS.kind] at h
 | .i::.i::_::_::_,h=>simp [TK,FS.kind] at h
 | .i::.r _ _::.i::_::_,h=>simp [TK,FS.kind] at h
 | .i::.r _ _::.r _ _::.r _ _::_,h=>simp [TK,FS.kind] at h
 | .i::.r _ _::.r _ _::.i::_::_,h=>simp [TK,FS.kind] at h
theorem GO.csR {w:World} {lo hi:Nat} {s:Option Addr} {R:List (List FS)} {l:List (List I5)} (h:GO w lo hi s TC R (l.map codeV)):CsR w lo hi s l:=by
 rcases h.rok with e | ⟨g,o,rfl⟩
 ·exact .inl (by simpa using e)
 ·rcases Nat.eq_zero_or_pos l.length with h0 | hpos
  ·exact .inl (List.length_eq_zero_iff.1 h0)
  have at1:∀ i x,l[i]? =some x→CR w lo hi g (o+i) x∧lo≤g∧g < hi:=fun i x hx=>by
   have hv:(l.map codeV)[i]? =some (codeV x):=by rw [List.getElem?_map,hx];rfl
   obtain ⟨rec,hr⟩:=at_same h.n hv
   obtain ⟨y,rfl⟩:=kindC (h.t i rec hr)
   have q:=(h.c i _ _ hr hv).2 0 (.r y 5) (.r (fl5 x)) rfl rfl
   obtain ⟨q1,q2,q3⟩:=q
   have hn:y.n=x.length:=by
    have:=q3.n
    rw [fl5_len] at this
    simp [VS.wide] at this
    omega
   obtain ⟨ys,yn,yc⟩:=y
   simp only at hn
   subst hn
   refine ⟨⟨ys,yc,?_,q3.insR⟩,q2⟩
   simpa [adr,TC] using q1
  have h0:=at1 0 _ (List.getElem?_eq_getElem hpos)
  exact .inr ⟨g,o,rfl,h0.2.1,h0.2.2,fun i x hx=>(at1 i x hx).1⟩
theorem GO.ksR {w:World} {lo hi:Nat} {s:Option Addr} {R:List (List FS)} {l:List KD} (h:GO w lo hi s TK R (l.map coreV)):KsR w lo hi s l:=by
 rcases h.rok with e | ⟨g,o,rfl⟩
 ·exact .inl (by simpa using e)
 ·rcases Nat.eq_zero_or_pos l.length with h0 | hpos
  ·exact .inl (List.length_eq_zero_iff.1 h0)
  have at1:∀ i x,l[i]? =some x→KR w lo hi g (o+i * 4) x∧lo≤g∧g < hi:=fun i x hx=>by
   have hv:(l.map coreV)[i]? =some (coreV x):=by rw [List.getElem?_map,hx];rfl
   obtain ⟨rec,hr⟩:=at_same h.n hv
   obtain ⟨y,y',rfl⟩:=kindK (h.t i rec hr)
   have q:=(h.c i _ _ hr hv).2
   have q0:=q 0 .i (.i x.pc) rfl rfl
   have q1:=q 1 (.r y 1) (.r x.regs) rfl rfl
   have q2:=q 2 (.r y' 1) (.r x.vw) rfl rfl
   have q3:=q 3 .i (.i x.st) rfl rfl
   obtain ⟨a1,a2,a3⟩:=q1
   obtain ⟨b1,b2,b3⟩:=q2
   rw [wide_one] at a3 b3
   have n1:=a3.n
   have n2:=b3.n
   obtain ⟨ys,yn,yc⟩:=y
   obtain ⟨zs,zn,zc⟩:=y'
   simp only at n1 n2
   subst n1 n2
   have e:∀ j,o+(i * 4+j)=o+i * 4+j:=fun j=>by omega
   simp only [adr,TK,List.length,e] at q0 a1 b1 q3 a2
   exact ⟨⟨ys,yc,zs,zc,q0.1,a1,b1,q3.1,a3.ints,b3.ints⟩,a2⟩
  have h0:=at1 0 _ (List.getElem?_eq_getElem hpos)
  exact .inr ⟨g,o,rfl,h0.2.1,h0.2.2,fun i x hx=>(at1 i x hx).1⟩
theorem fl2_at:∀ (l:List ND) (i:Nat) (x:ND),l[i]? =some x→(fl2 l)[i * 2]? =some x.who∧(fl2 l)[i * 2+1]? =some x.v
 | [],i,x,h=>by simp at h
 | y::r,0,x,h=>by
  simp at h
  subst h
  exact ⟨rfl,rfl⟩
 | y::r,i+1,x,h=>by
  have h':r[i]? =some x:=by simpa using h
  have e:=fl2_at r i x h'
  have e0:(i+1) * 2=i * 2+2:=by omega
  rw [e0]
  exact e
theorem VO.ntsR {w:World} {lo hi:Nat} {s:Option Addr} {n c:Nat} {l:List ND} (h:VO w lo hi ((⟨s,n,c⟩:VS).wide 2) (fl2 l)):NtsR w lo hi s l:=by
 rcases h.c with e | ⟨g,o,hs,h1,h2,hc⟩
 ·have:=fl2_len l
  rw [e] at this
  exact .inl (List.length_eq_zero_iff.1 (by simp at this;omega))
 ·refine .inr ⟨g,o,hs,h1,h2,fun i x hx=>?_⟩
  have hi:=(List.getElem?_eq_some_iff.1 hx).1
  obtain ⟨e0,e1⟩:=fl2_at l i _ hx
  have q0:=(hc (i * 2) (by rw [fl2_len];omega)).1
  have q1:=(hc (i * 2+1) (by rw [fl2_len];omega)).1
  rw [List.getD_eq_getElem?_getD] at q0 q1
  rw [e0] at q0
  rw [e1] at q1
  exact ⟨q0,q1⟩
/- a box of four cells that may be written -/
structure X4 (w:World) (b:Nat) (v0 v1 v2 v3:Value):Prop where
 x:B4 w b v0 v1 v2 v3
 fz:∀ j,w.frozen? ⟨b,j,none⟩=false
theorem X4.keep {w w':World} {b:Nat} {v0 v1 v2 v3:Value} (h:X4 w b v0 v1 v2 v3) {B:Nat} (hb:Below B w w') (hB:b < B):X4 w' b v0 v1 v2 v3:=
 ⟨h.x.keep hb hB,fun j=>(hb.frozen (p:=⟨b,j,none⟩) hB).trans (h.fz j)⟩
theorem X4.off {w:World} {b g j:Nat} {v0 v1 v2 v3 u:Value} (h:X4 w b v0 v1 v2 v3) (hg:b≠g):X4 (w.setCell ⟨g,j,none⟩ u) b v0 v1 v2 v3:=
 ⟨⟨by simpa using h.x.z,(setC_blk (Ne.symm hg)).trans h.x.c0,(setC_blk (Ne.symm hg)).trans h.x.c1,(setC_blk (Ne.symm hg)).trans h.x.c2,(setC_blk (Ne.symm hg)).trans h.x.c3⟩,fun j=>by rw [World.frozen?_setCell];exact h.fz j⟩
theorem X4.set0 {w:World} {b:Nat} {v0 v1 v2 v3 u:Value} (h:X4 w b v0 v1 v2 v3):X4 (w.setCell ⟨b,0,none⟩ u) b u v1 v2 v3:=
 ⟨⟨by simpa using h.x.z,setC_at (by rw [h.x.c0];rfl),(setC_off (by omega)).trans h.x.c1,(setC_off (by omega)).trans h.x.c2,(setC_off (by omega)).trans h.x.c3⟩,fun j=>by rw [World.frozen?_setCell];exact h.fz j⟩
theorem X4.set1 {w:World} {b:Nat} {v0 v1 v2 v3 u:Value} (h:X4 w b v0 v1 v2 v3):X4 (w.setCell ⟨b,1,none⟩ u) b v0 u v2 v3:=
 ⟨⟨by simpa using h.x.z,(setC_off (by omega)).trans h.x.c0,setC_at (by rw [h.x.c1];rfl),(setC_off (by omega)).trans h.x.c2,(setC_off (by omega)).trans h.x.c3⟩,fun j=>by rw [World.frozen?_setCell];exact h.fz j⟩
theorem X4.set2 {w:World} {b:Nat} {v0 v1 v2 v3 u:Value} (h:X4 w b v0 v1 v2 v3):X4 (w.setCell ⟨b,2,none⟩ u) b v0 v1 u v3:=
 ⟨⟨by simpa using h.x.z,(setC_off (by omega)).trans h.x.c0,(setC_off (by omega)).trans h.x.c1,setC_at (by rw [h.x.c2];rfl),(setC_off (by omega)).trans h.x.c3⟩,fun j=>by rw [World.frozen?_setCell];exact h.fz j⟩
theorem X4.set3 {w:World} {b:Nat} {v0 v1 v2 v3 u:Value} (h:X4 w b v0 v1 v2 v3):X4 (w.setCell ⟨b,3,none⟩ u) b v0 v1 v2 u:=
 ⟨⟨by simpa using h.x.z,(setC_off (by omega)).trans h.x.c0,(setC_off (by omega)).trans h.x.c1,(setC_off (by omega)).trans h.x.c2,setC_at (by rw [h.x.c3];rfl)⟩,fun j=>by rw [World.frozen?_setCell];exact h.fz j⟩
theorem X4.new (w:World) (v0 v1 v2 v3:Value) (T:TypeId):∃ W,w.alloc (.cells #[v0,v1,v2,v3] T)=W∧X4 W w.heap.size v0 v1 v2 v3∧Below w.heap.size w W∧w.heap.size < W.heap.size:=by
 refine ⟨_,rfl,⟨⟨?_,?_,?_,?_,?_⟩,?_⟩,(Below.refl _ _).alloc (Nat.le_refl _) _,?_⟩<;>first | (simp [go_sem];done) | (intro j;simp [go_sem])
end
section
open Go.RowKit
end
section
open Go.RowKit
end
section
open Go.RowKit
structure MP where
 s1:Option Addr
 c1:Nat
 RC:List (List FS)
 s2:Option Addr
 c2:Nat
 RK:List (List FS)
 s3:Option Addr
 c3:Nat
 S:List RS
 s4:Option Addr
 c4:Nat
def MP.x4 (p:MP) (d:MD):VS:=(⟨p.s4,d.tr.length,p.c4⟩:VS).wide 2
def MP.as (p:MP) (d:MD):List Addr:=gAs p.s1 TC.length p.RC 0++(gAs p.s2 TK.length p.RK 0++(mAs p.S++vAs (p.x4 d)))
structure MaO (w:World) (lo hi:Nat) (p:MP) (d:MD):Prop where
 c:GO w lo hi p.s1 TC p.RC (d.codes.map codeV)
 k:GO w lo hi p.s2 TK p.RK (d.cores.map coreV)
 m:MO w lo hi p.s3 p.S d.mem
 t:VO w lo hi (p.x4 d) (fl2 d.tr)
 d:(p.as d).Nodup
theorem MaO.keep {w w':World} {lo hi:Nat} {p:MP} {d:MD} (h:MaO w lo hi p d) (hb:Keep lo hi w w'):MaO w' lo hi p d:=⟨h.c.keep hb,h.k.keep hb,h.m.keep hb,h.t.keep hb,h.d⟩
theorem MaO.mono {w:World} {lo hi lo' hi':Nat} {p:MP} {d:MD} (h:MaO w lo hi p d) (a:lo'≤lo) (b:hi≤hi'):MaO w lo' hi' p d:=⟨h.c.mono a b,h.k.mono a b,h.m.mono a b,h.t.mono a b,h.d⟩
theorem MaO.ma {w:World} {lo hi:Nat} {p:MP} {d:MD} (h:MaO w lo hi p d):MaR w lo hi p.s1 p.s2 p.s3 p.s4 d:=⟨h.c.csR,h.k.ksR,h.m.mem,h.t.ntsR⟩
end
section
open Go.RowKit
end
end
section
set_option linter.unusedSimpArgs false
set_option linter.unusedVariables false
set_option maxRecDepth 100000
open Go.RowKit
structure But (g:Nat) (w w':World):Prop where
 os:w'.os=w.os
 tape:w'.tape=w.tape
 output:w'.output=w.output
 size:w.heap.size≤w'.heap.size
 block:∀ k,k < w.heap.size→k≠g→w'.heap[k]? =w.heap[k]?
theorem But.refl (g:Nat) (w:World):But g w w:=⟨rfl,rfl,rfl,Nat.le_refl _,fun _ _ _=>rfl⟩
theorem But.trans {g:Nat} {a b c:World} (h:But g a b) (k:But g b c):But g a c:=
 ⟨k.os.trans h.os,k.tape.trans h.tape,k.output.trans h.output,Nat.le_trans h.size k.size,fun i hi hg=>(k.block i (Nat.lt_of_lt_of_le hi h.size) hg).trans (h.block i hi hg)⟩
theorem But.drewN {g:Nat} {w w':World} (h:But g w w') (n:Nat):But g w (w'.drewN n):=⟨h.os,h.tape,h.output,h.size,h.block⟩
theorem But.setCell {g:Nat} {w w':World} (h:But g w w') (o:Nat) (v:Value):But g w (w'.setCell ⟨g,o,none⟩ v):=
 ⟨h.os,h.tape,h.output,by simpa using h.size,fun k hk hg=>(Below.heap_setCell w' ⟨g,o,none⟩ v k hg).trans (h.block k hk hg)⟩
theorem But.alloc {g:Nat} {w w':World} (h:But g w w') (o:Obj):But g w (w'.alloc o):=
 h.trans ⟨rfl,rfl,rfl,by simp,fun k hk _=>Below.heap_alloc _ _ _ hk⟩
theorem But.cell {g:Nat} {w w':World} (h:But g w w') {p:Addr} (hp:p.block < w.heap.size) (hg:p.block≠g):w'.cell? p=w.cell? p:=World.cell?_of_block (w:=w) (h.block p.block hp hg)
theorem But.frozen {g:Nat} {w w':World} (h:But g w w') {p:Addr} (hp:p.block < w.heap.size) (hg:p.block≠g):w'.frozen? p=w.frozen? p:=World.frozen?_of_block (w:=w) (h.block p.block hp hg)
theorem But.below {g B:Nat} {w w':World} (h:But g w w') (hB:B≤g) (hs:B≤w.heap.size):Below B w w':=
 ⟨h.os,h.tape,h.output,h.size,fun k hk=>h.block k (by omega) (by omega)⟩
theorem But.of_below {g:Nat} {w w':World} (h:Below w.heap.size w w'):But g w w':=⟨h.os,h.tape,h.output,h.size,fun k hk _=>h.block k hk⟩
/- the bytes of a draw lie below block p -/
def Bytes (w:World) (p:Nat) (s:Option Addr) (n:Nat):Prop:=
 n=0∨∃ g o,s=some ⟨g,o,none⟩∧g < p∧∀ k,k < n→∃ b:Int,w.cell? ⟨g,o+k,none⟩=some (.int .u8 b)∧0≤b∧b≤255
def Cur (w:World) (p:Nat) (s:Option Addr) (n c:Nat):Prop:=
 ∃ i h:Int,w.cell? ⟨p,0,none⟩=some (.slice s n c)∧w.cell? ⟨p,1,none⟩=some (.int .i64 i)∧w.cell? ⟨p,2,none⟩=some (.int .i64 h)∧(∀ j,w.frozen? ⟨p,j,none⟩=false)∧0≤i∧i≤n∧p < w.heap.size
theorem and255 (y:Int):0≤bits .and .i64 y 255∧bits .and .i64 y 255≤255:=by
 unfold bits
 have e:(255:Nat) % 2 ^ IntKind.i64.bits=255:=by decide
 simp
 rw [e]
 have h:(y % 2 ^ IntKind.i64.bits).toNat&&& 255≤255:=Nat.and_le_right
 generalize (y % 2 ^ IntKind.i64.bits).toNat&&& 255=z at h
 rw [IntKind.wrap_i64]
 omega
theorem Bytes.but {w w':World} {p n:Nat} {s:Option Addr} (h:Bytes w p s n) (hb:But p w w') (hp:p≤w.heap.size):Bytes w' p s n:=by
 rcases h with h | ⟨g,o,hs,hg,hc⟩
 ·exact .inl h
 ·refine .inr ⟨g,o,hs,hg,fun k hk=>?_⟩
  obtain ⟨b,h1,h2⟩:=hc k hk
  exact ⟨b,(hb.cell (p:=⟨g,o+k,none⟩) (by show g < _;omega) (by show g≠p;omega)).trans h1,h2⟩
theorem cur_set {w : World} {p n c : Nat} {s : Option Addr} {i h i' h' : Int} {m m' : Nat} (c0 : w.cell? ⟨p, 0, none⟩ = some (.slice s n c)) (c1 : w.cell? ⟨p, 1, none⟩ = some (.int .i64 i)) (c2 : w.cell? ⟨p, 2, none⟩ = some (.int .i64 h)) (hf : ∀ j, w.frozen? ⟨p, j, none⟩ = false) (hi : 0 ≤ i') (hi' : i' ≤ n) (hp : p < w.heap.size) :
  Cur ((((w.setCell ⟨p,2,none⟩ (.int .i64 h')).drewN m).setCell ⟨p,1,none⟩ (.int .i64 i')).drewN m') p s n c:=by
 refine ⟨i',h',?_,?_,?_,?_,hi,hi',by simpa using hp⟩
 ·simp [go_sem,c0]
 ·simp [go_sem,c1]
 ·simp [go_sem,c2]
 ·intro j;simp [hf]
theorem cur_set2 {w : World} {p n c : Nat} {s : Option Addr} {i h h' : Int} {m : Nat} (c0 : w.cell? ⟨p, 0, none⟩ = some (.slice s n c)) (c1 : w.cell? ⟨p, 1, none⟩ = some (.int .i64 i)) (c2 : w.cell? ⟨p, 2, none⟩ = some (.int .i64 h)) (hf : ∀ j, w.frozen? ⟨p, j, none⟩ = false) (hi : 0 ≤ i) (hi' : i ≤ n) (hp : p < w.heap.size) :
  Cur ((w.setCell ⟨p,2,none⟩ (.int .i64 h')).drewN m) p s n c:=by
 refine ⟨i,h',?_,?_,?_,?_,hi,hi',by simpa using hp⟩
 ·simp [go_sem,c0]
 ·simp [go_sem,c1]
 ·simp [go_sem,c2]
 ·intro j;simp [hf]
set_option maxRecDepth 100000 in
set_option maxHeartbeats 1000000 in
theorem l1Byte_t (p : Nat) (s : Option Addr) (n c : Nat) (w : World) (hc : Cur w p s n c) (hb : Bytes w p s n) (hn : n ≤ maxLen) :
  Calls Tryz.prog 82 #[.pointer (some ⟨p,0,none⟩)] w fun e w'=>∃ x:Int,e=.returned (.int .i64 x)∧0≤x∧x≤255∧Cur w' p s n c∧But p w w':=by
 obtain ⟨i,h,c0,c1,c2,hf,hi,hi',hp⟩:=hc
 unfold maxLen at hn
 by_cases hin:i < (n:Int)
 ·obtain ⟨k,rfl⟩:=Int.eq_ofNat_of_zero_le hi
  rcases hb with rfl | ⟨g,o,rfl,hg,hbs⟩
  ·exact absurd hin (by omega)
  obtain ⟨b,hb,b0,b1⟩:=hbs k (by omega)
  clear hbs
  have hgp:g≠p:=by omega
  go_enter Tryz.func82,Tryz.ntmps82
  go_wp2
  go_quiet (fail)
  go_wp2
  go_quiet (fail)
  go_wp2
  go_quiet (fail)
  go_wp2
  go_ret
  refine ⟨_,rfl,(and255 _).1,(and255 _).2,?_,?_⟩
  ·exact cur_set (m':=0) c0 c1 c2 hf (by omega) (by omega) hp
  ·exact ((((But.refl p w).setCell 2 _).drewN _).setCell 1 _)
 ·go_enter Tryz.func82,Tryz.ntmps82
  go_wp2
  go_quiet (fail)
  go_wp2
  go_quiet (fail)
  go_wp2
  go_ret
  refine ⟨_,rfl,(and255 _).1,(and255 _).2,?_,?_⟩
  ·rw [World.drewN_drewN]
   exact cur_set2 c0 c1 c2 hf hi hi' hp
  ·exact ((((But.refl p w).setCell 2 _).drewN _).drewN _)
set_option maxHeartbeats 400000 in
theorem l1Below_t (p : Nat) (s : Option Addr) (n c : Nat) (q : Int) (w : World) (hc : Cur w p s n c) (hb : Bytes w p s n) (hn : n ≤ maxLen) (hq0 : 0 < q) (hq : q ≤ 256) :
  Calls Tryz.prog 47 #[.pointer (some ⟨p,0,none⟩),.int .i64 q] w fun e w'=>∃ x:Int,e=.returned (.int .i64 x)∧0≤x∧x < q∧Cur w' p s n c∧But p w w':=by
 have h1:¬ q≤0:=by omega
 have h2:(q==0)=false:=by simp;omega
 go_enter Tryz.func47,Tryz.ntmps47
 go_wp2_with fail
 refine (l1Byte_t p s n c w hc hb hn).mono ?_
 rintro e w1 ⟨x,rfl,x0,x1,hc1,hb1⟩
 have HC:Hid (Cur w1 p s n c):=hc1
 clear hc1 hc hb
 go_wp2
 go_ret
 exact ⟨x % q,rfl,Int.emod_nonneg _ (by omega),Int.emod_lt_of_pos _ hq0,HC.out,hb1⟩
end
section
set_option linter.unusedSimpArgs false
set_option linter.unusedVariables false
set_option maxRecDepth 100000
open Go.RowKit
def edgeB (full:List Oper) (i' i:Nat):Bool:=(full[i']?.map fun x=>x.after.any fun e=>Region.binds .any e&&e.on==i).getD false
def lexE (full:List Oper):Bool:=(List.range full.length).all fun i=>(full[i]?.map fun x=>x.after.all fun e=>!Region.binds .any e||decide (e.on < i)).getD true
/- whatever is ahead of number j is listed when j may come up -/
def covB (full:List Oper) (j:Nat):Bool:=(List.range j).all fun i=>(List.range (j+1)).any fun i'=>decide (i < i')&&edgeB full i' i
def sufOk (full:List Oper) (k:Nat):Bool:=lexE full&&((List.range full.length).all fun j=>decide (j < k)||covB full j)
theorem edge_iff {full:List Oper} {i' i:Nat}:edgeB full i' i=true↔∃ x,full[i']? =some x∧∃ e∈x.after,Region.binds .any e=true∧e.on=i:=by
 unfold edgeB
 cases h:full[i']? with
 | none=>simp
 | some x=>
  simp only [Option.map_some,Option.getD_some,Array.any_eq_true',Bool.and_eq_true,beq_iff_eq]
  constructor
  ·rintro ⟨e,h1,h2,h3⟩;exact ⟨x,rfl,e,h1,h2,h3⟩
  ·rintro ⟨y,hy,e,h1,h2,h3⟩;injection hy with hy;subst hy;exact ⟨e,h1,h2,h3⟩
theorem mem_rdy {full:List Oper} {listed:Array Bool} {i:Nat}:i∈Region.ready .any full.toArray listed↔i < full.length∧listed.getD i true=false∧∀ i2,edgeB full i i2=true→listed.getD i2 false=true:=by
 unfold Region.ready
 rw [List.mem_filter,List.mem_range,Bool.and_eq_true,Bool.not_eq_true',List.size_toArray,List.getElem?_toArray]
 refine and_congr_right fun hi=>and_congr_right fun _=>?_
 rw [List.getElem?_eq_getElem hi]
 simp only [Option.map_some,Option.getD_some,Array.all_eq_true',Bool.or_eq_true,Bool.not_eq_true']
 constructor
 ·intro h i2 h2
  rw [edge_iff] at h2
  obtain ⟨x,hx,e,he,hb,rfl⟩:=h2
  rw [List.getElem?_eq_getElem hi] at hx
  injection hx with hx
  subst hx
  rcases h e he with h | h
  ·rw [hb] at h;cases h
  ·exact h
 ·intro h e he
  cases hb:Region.binds .any e with
  | false=>exact .inl rfl
  | true=>exact .inr (h e.on (edge_iff.2 ⟨_,List.getElem?_eq_getElem hi,e,he,hb,rfl⟩))
/- what is listed was waited for -/
def Down (full:List Oper) (listed:Array Bool):Prop:=∀ i i2,i < full.length→listed.getD i true=true→edgeB full i i2=true→listed.getD i2 false=true
theorem lex_lt {full:List Oper} (h:lexE full=true) {i i2:Nat} (he:edgeB full i i2=true):i2 < i∧i < full.length:=by
 rw [edge_iff] at he
 obtain ⟨x,hx,e,hm,hb,rfl⟩:=he
 have hi:=(List.getElem?_eq_some_iff.1 hx).1
 unfold lexE at h
 rw [List.all_eq_true] at h
 have q:=h i (List.mem_range.2 hi)
 rw [hx] at q
 simp only [Option.map_some,Option.getD_some,Array.all_eq_true',Bool.or_eq_true,Bool.not_eq_true'] at q
 rcases q e hm with q | q
 ·rw [hb] at q;cases q
 ·exact ⟨by simpa using q,hi⟩
theorem getD_in {listed:Array Bool} {i:Nat} (h:i < listed.size) (b c:Bool):listed.getD i b=listed.getD i c:=by simp [Array.getD,h]
theorem down_set {full:List Oper} {listed:Array Bool} (hs:listed.size=full.length) (hd:Down full listed) (hx:lexE full=true) {k:Nat} (hk:k∈Region.ready .any full.toArray listed):Down full (listed.setIfInBounds k true):=fun i i2 hi hl he=>by
 have h2:=lex_lt hx he
 have q:listed.getD i2 false=true:=by
  by_cases e:i=k
  ·subst e
   exact (mem_rdy.1 hk).2.2 i2 he
  ·refine hd i i2 hi ?_ he
   have:i < listed.size:=by omega
   simpa [Array.getD,this,Array.getElem_setIfInBounds,Ne.symm e] using hl
 have:i2 < listed.size:=by omega
 by_cases e:k=i2
 ·subst e;simp [Array.getD,this]
 ·simp only [Array.getD,this,dif_pos] at q
  simp [Array.getD,this,Array.getElem_setIfInBounds,e]
  exact q
theorem cov_all {full:List Oper} {listed:Array Bool} (hs:listed.size=full.length) (hd:Down full listed) {j:Nat} (hj:j < full.length) (hc:covB full j=true) (hr:∀ i2,edgeB full j i2=true→listed.getD i2 false=true):∀ n i,j - i≤n→i < j→listed.getD i false=true:=by
 intro n
 induction n with
 | zero=>intro i h1 h2;omega
 | succ n ih=>
  intro i h1 h2
  unfold covB at hc
  rw [List.all_eq_true] at hc
  have q:=hc i (List.mem_range.2 h2)
  rw [List.any_eq_true] at q
  obtain ⟨i',hm,q⟩:=q
  rw [List.mem_range] at hm
  rw [Bool.and_eq_true,decide_eq_true_eq] at q
  by_cases e:i'=j
  ·subst e;exact hr i q.2
  ·have:=ih i' (by omega) (by omega)
   exact hd i' i (by omega) (by rw [getD_in (by omega) true false];exact this) q.2
theorem rdy_some {full:List Oper} (hx:lexE full=true) {listed:Array Bool} (hs:listed.size=full.length):∀ (k:Nat),k < full.length→listed.getD k true=false→∃ i,i≤k∧i∈Region.ready .any full.toArray listed:=by
 intro k
 induction k using Nat.strongRecOn with
 | ind k ih=>
  intro hk hf
  by_cases h:∃ j,j < k∧listed.getD j true=false
  ·obtain ⟨j,h1,h2⟩:=h
   obtain ⟨i,h3,h4⟩:=ih j h1 (by omega) h2
   exact ⟨i,by omega,h4⟩
  ·refine ⟨k,Nat.le_refl _,mem_rdy.2 ⟨hk,hf,fun i2 he=>?_⟩⟩
   have h2:=lex_lt hx he
   have hn:¬ listed.getD i2 true=false:=fun hh=>h ⟨i2,h2.1,hh⟩
   rw [getD_in (by omega) false true]
   simpa using hn
/- all below k are listed, none from k on -/
def Upto (n:Nat) (listed:Array Bool) (k:Nat):Prop:=listed.size=n∧(∀ i,i < k→i < n→listed.getD i true=true)∧∀ i,k≤i→i < n→listed.getD i true=false
theorem Upto.next {n k:Nat} {listed:Array Bool} (h:Upto n listed k) (hk:k < n):Upto n (listed.setIfInBounds k true) (k+1):=by
 obtain ⟨h1,h2,h3⟩:=h
 refine ⟨by simpa using h1,fun i a b=>?_,fun i a b=>?_⟩
 ·have hi:i < listed.size:=by omega
  by_cases e:k=i
  ·subst e;simp [Array.getD,hi]
  ·have q:=h2 i (by omega) b
   simp only [Array.getD,hi,dif_pos] at q
   simp [Array.getD,hi,Array.getElem_setIfInBounds,e]
   exact q
 ·have hi:i < listed.size:=by omega
  have q:=h3 i (by omega) b
  simp only [Array.getD,hi,dif_pos] at q
  simp [Array.getD,hi,Array.getElem_setIfInBounds,show ¬ k=i by omega]
  exact q
theorem forced {P:Program} {Q:Exit→Act→World→Prop} {full:List Oper} (hx:lexE full=true):∀ (t:List Oper) (k:Nat) (listed:Array Bool) (a:Act) (w:World),full.drop k=t→(∀ j,k≤j→j < full.length→covB full j=true)→Down full listed→Upto full.length listed k→wpList P full.toArray Q t a w→wpAny P .any full.toArray Q t.length listed a w
 | [],k,listed,a,w,ht,hc,hd,hu,h=>by
  have hk:full.length≤k:=List.drop_eq_nil_iff.1 ht
  refine ⟨List.eq_nil_iff_forall_not_mem.2 fun i hi=>?_,h⟩
  obtain ⟨h1,h2,-⟩:=mem_rdy.1 hi
  rw [hu.2.1 i (by omega) h1] at h2
  cases h2
 | o::t,k,listed,a,w,ht,hc,hd,hu,h=>by
  have hk:k < full.length:=by
   rcases Nat.lt_or_ge k full.length with q | q
   ·exact q
   ·rw [List.drop_eq_nil_of_le q] at ht;cases ht
  have ho:full[k]? =some o:=by
   have:(full.drop k)[0]? =some o:=by rw [ht];rfl
   rw [List.getElem?_drop] at this
   simpa using this
  have hall:∀ i,i∈Region.ready .any full.toArray listed→i=k:=fun i hi=>by
   obtain ⟨h1,h2,h3⟩:=mem_rdy.1 hi
   rcases Nat.lt_trichotomy i k with q | q | q
   ·rw [hu.2.1 i q h1] at h2;cases h2
   ·exact q
   ·have c:=cov_all hu.1 hd h1 (hc i (by omega) h1) h3 i k (by omega) q
    have c2:=hu.2.2 k (Nat.le_refl _) hk
    rw [getD_in (by have:=hu.1;omega) true false,c] at c2
    cases c2
  refine ⟨fun h0=>?_,fun i hi=>?_⟩
  ·obtain ⟨i,-,hi⟩:=rdy_some hx hu.1 k hk (hu.2.2 k (Nat.le_refl _) hk)
   rw [h0] at hi
   cases hi
  ·have e:=hall i hi
   subst e
   unfold wpList at h
   unfold wpOp
   have ho2:full.toArray[i]? =some o:=by rw [List.getElem?_toArray];exact ho
   have hd2:=down_set hu.1 hd hx hi
   have go:∀ a' w',wpList P full.toArray Q t a' w'→wpAny P .any full.toArray Q t.length (listed.setIfInBounds i true) a' w':=fun a' w' hh=>forced hx t (i+1) _ a' w' (by rw [← List.drop_drop,ht];rfl) (fun j a b=>hc j (by omega) b) hd2 (hu.next hk) hh
   simp only [ho2]
   split
   ·rename_i hw
    rw [if_pos hw] at h
    exact h.imp (Oper.wp_mono go) id
   ·rename_i hw
    rw [if_neg hw] at h
    exact go _ _ h
theorem take_at {full:List Oper} {k i:Nat} (h:i < k):(full.take k)[i]? =full[i]? :=by rw [List.getElem?_take];simp [h]
theorem edge_take {full:List Oper} {k i i2:Nat} (h:i < k):edgeB (full.take k) i i2=edgeB full i i2:=by unfold edgeB;rw [take_at h]
/- the first k in whatever order, then the others -/
theorem suf_conv {P : Program} {Q : Exit → Act → World → Prop} {C : World → Prop} {Qa : Act → Prop} {full : List Oper} {k : Nat} (hk : k < full.length) (hx : lexE full = true) (hc : ∀ j, k ≤ j → j < full.length → covB full j = true) (hy : ∀ i x, i < k → full[i]? = some x → ∀ t : Array Value, Region.wanted x (yielded (full.take k).toArray t) = Region.wanted x (yielded full.toArray t))
  (hQ:∀ a w,C w→Qa a→wpList P full.toArray Q (full.drop k) a w):
  ∀ (fuel:Nat) (l1 listed:Array Bool) (a:Act) (w:World),listed.size=full.length→l1.size=k→(∀ i,i < k→l1.getD i true=listed.getD i true)→(∀ i,k≤i→i < full.length→listed.getD i true=false)→Down full listed→C w→wpAnyQ P .any (full.take k).toArray C Qa fuel l1 a→wpAny P .any full.toArray Q (fuel+(full.length - k)) listed a w:=by
 have hl:(full.take k).length=k:=by rw [List.length_take];omega
 have hx1:lexE (full.take k)=true:=by
  unfold lexE at hx ⊢
  rw [List.all_eq_true] at hx ⊢
  intro i hi
  rw [List.mem_range,hl] at hi
  rw [take_at hi]
  exact hx i (List.mem_range.2 (by omega))
 have fin:∀ (fuel:Nat) (l1 listed:Array Bool) (a:Act) (w:World),listed.size=full.length→l1.size=k→(∀ i,i < k→l1.getD i true=listed.getD i true)→(∀ i,k≤i→i < full.length→listed.getD i true=false)→Down full listed→Region.ready .any (full.take k).toArray l1=[]→wpList P full.toArray Q (full.drop k) a w→wpAny P .any full.toArray Q (fuel+(full.length - k)) listed a w:=by
  intro fuel l1 listed a w hs h1 hsame hun hd h0 hw
  have hup:Upto full.length listed k:=by
   refine ⟨hs,fun i a1 a2=>?_,hun⟩
   rw [← hsame i a1]
   cases hb:l1.getD i true with
   | true=>rfl
   | false=>
    obtain ⟨i',-,hi'⟩:=rdy_some hx1 (by omega) i (by omega) hb
    rw [h0] at hi'
    cases hi'
  have q:=forced (P:=P) (Q:=Q) hx (full.drop k) k listed a w rfl hc hd hup hw
  have mono:∀ (n:Nat) (f:Nat) (l:Array Bool) (a:Act) (w:World),wpAny P .any full.toArray Q f l a w→wpAny P .any full.toArray Q (n+f) l a w:=by
   intro n f
   induction f with
   | zero=>
    intro l a w h
    cases n with
    | zero=>exact h
    | succ n=>exact ⟨fun _=>h.2,by rw [h.1];simp⟩
   | succ f ih=>intro l a w h;exact ⟨h.1,fun i hi=>wpOp_mono (fun a' w' hh=>ih _ a' w' hh) (h.2 i hi)⟩
  have e:(full.drop k).length=full.length - k:=List.length_drop
  rw [e] at q
  exact mono fuel _ _ _ _ q
 intro fuel
 induction fuel with
 | zero=>
  intro l1 listed a w hs h1 hsame hun hd hC h
  exact fin 0 l1 listed a w hs h1 hsame hun hd h.1 (hQ a w hC h.2)
 | succ fuel ih=>
  intro l1 listed a w hs h1 hsame hun hd hC h
  by_cases h0:Region.ready .any (full.take k).toArray l1=[]
  ·exact fin (fuel+1) l1 listed a w hs h1 hsame hun hd h0 (hQ a w hC (h.1 h0))
  ·rw [show fuel+1+(full.length - k)=(fuel+(full.length - k))+1 by omega]
   have hlt:∀ i,i∈Region.ready .any full.toArray listed→i < k:=fun i hi=>by
    rcases Nat.lt_or_ge i k with q | q
    ·exact q
    ·exfalso
     obtain ⟨a1,a2,a3⟩:=mem_rdy.1 hi
     apply h0
     refine List.eq_nil_iff_forall_not_mem.2 fun j hj=>?_
     obtain ⟨b1,b2,-⟩:=mem_rdy.1 hj
     rw [hl] at b1
     have c:=cov_all hs hd a1 (hc i q a1) a3 i j (by omega) (by omega)
     rw [hsame j b1,getD_in (by omega) true false,c] at b2
     cases b2
   refine ⟨fun hn=>?_,fun i hi=>?_⟩
   ·obtain ⟨i,-,hi⟩:=rdy_some hx hs k hk (hun k (Nat.le_refl _) hk)
    rw [hn] at hi
    cases hi
   ·have hik:=hlt i hi
    obtain ⟨a1,a2,a3⟩:=mem_rdy.1 hi
    have hi1:i∈Region.ready .any (full.take k).toArray l1:=by
     refine mem_rdy.2 ⟨by omega,by rw [hsame i hik];exact a2,fun i2 he=>?_⟩
     rw [edge_take hik] at he
     have:=(lex_lt hx he).1
     rw [getD_in (by omega) false true,hsame i2 (by omega),getD_in (by omega) true false]
     exact a3 i2 he
    have hq:=h.2 i hi1
    obtain ⟨o,ho⟩:∃ o,full[i]? =some o:=⟨_,List.getElem?_eq_getElem a1⟩
    have hq':qOp P full.toArray C i (wpAnyQ P .any (full.take k).toArray C Qa fuel (l1.setIfInBounds i true)) a:=by
     unfold qOp at hq ⊢
     rw [List.getElem?_toArray] at hq ⊢
     rw [take_at hik,ho] at hq
     rw [ho]
     simp only at hq ⊢
     rw [hy i o hik ho] at hq
     exact hq
    refine wpOp_of_qOp hC (fun a' w' hC' hk'=>ih _ _ a' w' (by simpa using hs) (by simpa using h1) (fun j hj=>?_) (fun j b1 b2=>?_) (down_set hs hd hx hi) hC' hk') hq'
    ·have j1:j < l1.size:=by omega
     have j2:j < listed.size:=by omega
     have q:=hsame j hj
     simp only [Array.getD,j1,j2,dif_pos] at q
     by_cases e:i=j
     ·subst e;simp [Array.getD,j1,j2]
     ·simp [Array.getD,j1,j2,Array.getElem_setIfInBounds,e]
      exact q
    ·have j2:j < listed.size:=by omega
     have q:=hun j b1 b2
     simp only [Array.getD,j2,dif_pos] at q
     simp [Array.getD,j2,Array.getElem_setIfInBounds,show ¬ i=j by omega]
     exact q
/- no guard among the first k looks beyond them -/
def grdB (full:List Oper) (k:Nat):Bool:=(full.take k).all fun x=>match x.guard with | some (g,_)=>decide (g < k) | none=>true
theorem regionSuf {P : Program} {id : Nat} {Q : Exit → Act → World → Prop} {a : Act} (W : World) {full : List Oper} (k : Nat) (hk : decide (k < full.length) = true) (hm : P.follows .mixedOrders = true) (hB : Region.lexB .any (full.take k).toArray = true) (hS : sufOk full k = true) (hG : grdB full k = true)
  (h:wpQuiet P (full.take k).toArray (fun w'=>∃ x:Ext W,w'=x.w) (fun a'=>∀ w',(∃ x:Ext W,w'=x.w)→wpList P full.toArray Q (full.drop k) a' w') (full.take k) a):(Code.region id full.toArray true).wp P Q a W:=by
 rw [decide_eq_true_eq] at hk
 unfold sufOk at hS
 rw [Bool.and_eq_true,List.all_eq_true] at hS
 obtain ⟨hx,hc⟩:=hS
 have hc':∀ j,k≤j→j < full.length→covB full j=true:=fun j a1 a2=>by
  have q:=hc j (List.mem_range.2 a2)
  rw [Bool.or_eq_true,decide_eq_true_eq] at q
  rcases q with q | q
  ·omega
  ·exact q
 have hl:(full.take k).length=k:=by rw [List.length_take];omega
 simp only [Region.lexB,Bool.and_eq_true] at hB
 have h2:=wpAnyQ_lex (md:=.any) hB.1 (full.take k) 0 (Array.replicate (full.take k).toArray.size false) a (by simp) (by simpa using hB.2) h
 refine wp_region_any hm ?_
 have hy:∀ i x,i < k→full[i]? =some x→∀ t:Array Value,Region.wanted x (yielded (full.take k).toArray t)=Region.wanted x (yielded full.toArray t):=fun i x hi hx' t=>by
  unfold grdB at hG
  rw [List.all_eq_true] at hG
  have q:=hG x (List.mem_of_getElem? (by rw [take_at hi];exact hx'))
  unfold Region.wanted
  cases hg:x.guard with
  | none=>rfl
  | some y=>
   rw [hg] at q
   simp only [decide_eq_true_eq] at q
   have e:yielded (full.take k).toArray t y.1=yielded full.toArray t y.1:=by
    unfold yielded
    rw [List.getElem?_toArray,List.getElem?_toArray,take_at q]
   simp only [e]
 have q:=suf_conv (P:=P) (Q:=Q) (C:=fun w'=>∃ x:Ext W,w'=x.w) (Qa:=fun a'=>∀ w',(∃ x:Ext W,w'=x.w)→wpList P full.toArray Q (full.drop k) a' w') hk hx hc' hy (fun a' w' hC hh=>hh w' hC) k (Array.replicate k false) (Array.replicate full.length false) a { W with drawn:=W.drawn+1 } (by simp) (by simp) (fun i hi=>by simp [Array.getD,hi,show i < full.length by omega]) (fun i _ hi=>by simp [Array.getD,hi]) (fun i i2 hi hl=>by simp [Array.getD,hi] at hl) ⟨⟨{ W with drawn:=W.drawn+1 },⟨rfl,rfl,rfl,Nat.le_refl _,fun _ _=>rfl⟩⟩,rfl⟩ (by simp only [List.size_toArray,hl] at h2;exact h2)
 have e:k+(full.length - k)=full.toArray.size:=by simp;omega
 rw [e] at q
 simpa using q
end
section
set_option linter.unusedSimpArgs false
set_option linter.unusedVariables false
set_option maxRecDepth 100000
open Go.RowKit
theorem news_row {w:World} {g o:Nat} {l:List Int} (hc:∀ i,i < l.length→w.cell? ⟨g,o+i,none⟩=some (.int .i64 (l.getD i 0))):∀ j u,(l.map (Value.int .i64))[j]? =some u→w.cell? (Addr.add ⟨g,o,none⟩ j)=some u:=by
 intro j u hu
 rw [List.getElem?_map] at hu
 by_cases hj:j < l.length
 ·have e:(Addr.add ⟨g,o,none⟩ j)=⟨g,o+j,none⟩:=by
   by_cases h:j=0
   ·subst h;rfl
   ·simp [Addr.add,h]
  rw [e,hc j hj]
  rw [List.getElem?_eq_getElem hj] at hu
  simp at hu
  rw [← hu]
  simp [List.getD_eq_getElem?_getD,List.getElem?_eq_getElem hj]
 ·rw [List.getElem?_eq_none (by omega)] at hu
  cases hu
theorem app_row {ops : Array Oper} {rest : List Oper} {o : Oper} {a : Act} {Q : Exit → Act → World → Prop} (hgd : o.guard = none) (s x : Operand) (ho : o.op = .call { callee := .builtin .append, args := #[s, x], argTypes := #[51, 51] })
  (w:World) (base:Nat) (v:Value) (ls:List Int) (hs:a.eval s=v) (hown:OwnN w base v ls) (g0 o0 c:Nat) (l:List Int) (hx:a.eval x=.slice (some ⟨g0,o0,none⟩) l.length c) (hc:∀ i,i < l.length→w.cell? ⟨g0,o0+i,none⟩=some (.int .i64 (l.getD i 0)))
  (hl:0 < l.length) (hn:ls.length+l.length≤1099511627776) (hbase:base≤w.heap.size)
  (h:∀ g cap w',OwnN w' base (.slice (some ⟨g,0,none⟩) (ls.length+l.length) cap) (ls++l)→Below base w w'→g < w'.heap.size→base≤g→wpList Tryz.prog ops Q rest (a.put o.dst (.slice (some ⟨g,0,none⟩) (ls.length+l.length) cap)) w'):
  wpList Tryz.prog ops Q (o::rest) a w:=by
 obtain ⟨i0,hi,hz0,hz1,hz2⟩:=infoInt
 refine wpList_append_lies _ hgd s x 51 ho base 3 i0 _ 1 8 Tryz.underlying51 hi hz0 hz1 hz2 rfl (by decide) v ls.length _ hs hown ⟨g0,o0,none⟩ l.length c (l.map (Value.int .i64)) hx (by simp) (news_row hc) (fun u hu=>by obtain ⟨z,-,rfl⟩:=List.mem_map.1 hu;rfl) hl (by unfold maxLen;omega) (by omega) hbase _ rfl ?_
 intro g cap w' q1 q2 q3 q4
 have hb:Below base w w':=Below.grown (Below.refl _ _) q2 hbase (fun j hj=>(World.ownsRow.lt hown _ hj).1)
 have ho':OwnN w' base (.slice (some ⟨g,0,none⟩) (ls.length+l.length) cap) (ls++l):=by
  show w'.ownsRow base 3 1 _ (ls++l).length ((ls++l).map (Value.int .i64))
  rw [List.map_append,List.length_append]
  exact q1
 refine h g cap w' ho' hb q4 ?_
 rcases q3 with q3 | q3
 ·exact (World.ownsRow.lt hown _ q3).1
 ·omega
theorem step_row {ops : Array Oper} {o : Oper} {a : Act} {K : Act → World → Prop} {Q : Exit → Act → World → Prop} {E : Prop} (hgd : o.guard = none) (s x : Operand) (ho : o.op = .call { callee := .builtin .append, args := #[s, x], argTypes := #[51, 51] })
  (w:World) (base:Nat) (v:Value) (ls:List Int) (hs:a.eval s=v) (hown:OwnN w base v ls) (g0 o0 c:Nat) (l:List Int) (hx:a.eval x=.slice (some ⟨g0,o0,none⟩) l.length c) (hc:∀ i,i < l.length→w.cell? ⟨g0,o0+i,none⟩=some (.int .i64 (l.getD i 0)))
  (hl:0 < l.length) (hn:ls.length+l.length≤1099511627776) (hbase:base≤w.heap.size)
  (h:∀ g cap w',OwnN w' base (.slice (some ⟨g,0,none⟩) (ls.length+l.length) cap) (ls++l)→Below base w w'→g < w'.heap.size→base≤g→K (a.put o.dst (.slice (some ⟨g,0,none⟩) (ls.length+l.length) cap)) w'):
  if Region.wanted o (yielded ops a.tmps)=true then Oper.wp Tryz.prog o a w K Q else E:=by
 obtain ⟨i0,hi,hz0,hz1,hz2⟩:=infoInt
 refine step_append_lies _ hgd s x 51 ho base 3 i0 _ 1 8 Tryz.underlying51 hi hz0 hz1 hz2 rfl (by decide) v ls.length _ hs hown ⟨g0,o0,none⟩ l.length c (l.map (Value.int .i64)) hx (by simp) (news_row hc) (fun u hu=>by obtain ⟨z,-,rfl⟩:=List.mem_map.1 hu;rfl) hl (by unfold maxLen;omega) (by omega) hbase _ rfl ?_
 intro g cap w' q1 q2 q3 q4
 have hb:Below base w w':=Below.grown (Below.refl _ _) q2 hbase (fun j hj=>(World.ownsRow.lt hown _ hj).1)
 have ho':OwnN w' base (.slice (some ⟨g,0,none⟩) (ls.length+l.length) cap) (ls++l):=by
  show w'.ownsRow base 3 1 _ (ls++l).length ((ls++l).map (Value.int .i64))
  rw [List.map_append,List.length_append]
  exact q1
 refine h g cap w' ho' hb q4 ?_
 rcases q3 with q3 | q3
 ·exact (World.ownsRow.lt hown _ q3).1
 ·omega
theorem run_append_zero (w : World) (base : Nat) (v : Value) (ls : List Int) (hown : OwnN w base v ls) (s : Option Addr) (c : Nat) :
  (Builtin.append_ #[51,51] 51 #[v,.slice s 0 c]).run Tryz.prog w=.ok v w:=by
 obtain ⟨i0,hi,hz0,hz1,hz2⟩:=infoInt
 rcases hown.2 with ⟨rfl,-⟩ | ⟨g,cap,cur,rfl,_,_,hnc,_⟩
 ·cases s<;>simp [Builtin.append_,run_underlying Tryz.underlying51,sizeOf,typeInfo,hi,Builtin.lenOf,Builtin.firstCells,loadCells,loadCellsFrom,storeCells]
 ·cases s<;>simp [Builtin.append_,run_underlying Tryz.underlying51,sizeOf,typeInfo,hi,Builtin.lenOf,Builtin.firstCells,hnc,storeCells,loadCells,loadCellsFrom,storeCells]
structure Copied (w w':World) (sv:Option Addr) (cv:Nat) (base n:Nat) (s':Option Addr) (c':Nat):Prop where
 far:∀ k,k < w.heap.size→(Value.slice sv 0 cv).ownBlock≠some k→w'.heap[k]? =w.heap[k]?
 low:Below base w w'
 blk:∀ k,(Value.slice s' n c').ownBlock=some k→w.heap.size≤k∨(Value.slice sv 0 cv).ownBlock=some k
theorem wp_copyI {o : Oper} {a : Act} {w : World} {K : Act → World → Prop} {Q : Exit → Act → World → Prop} (s x : Operand) (hty : o.type = 51) (ho : o.op = .call { callee := .builtin .append, args := #[s, x], argTypes := #[51, 51] })
  (base:Nat) (sv:Option Addr) (cv:Nat) (hs:a.eval s=.slice sv 0 cv) (hown:OwnN w base (.slice sv 0 cv) []) (sx:Option Addr) (c:Nat) (l:List Int) {lo hi:Nat} (hx:a.eval x=.slice sx l.length c) (hr:IntsR w lo hi sx l) (hn:l.length≤1073741824) (hbase:base≤w.heap.size)
  (h:∀ s' c' w',OwnN w' base (.slice s' l.length c') l→Copied w w' sv cv base l.length s' c'→K (a.put o.dst (.slice s' l.length c')) w'):Oper.wp Tryz.prog o a w K Q:=by
 rcases hr with rfl | ⟨g,off,rfl,h1,h2,hc⟩
 ·have hrun:=run_append_zero w base _ _ hown sx c
  unfold Oper.wp
  simp at hx
  simp [execOp,ho,resolve,invoke,builtin,hs,hx,hty,hrun,Result.andThen]
  exact h sv cv w hown ⟨fun _ _ _=>rfl,Below.refl _ _,fun k hk=>.inr hk⟩
 ·rcases Nat.eq_zero_or_pos l.length with h0 | hl
  ·have e:=List.length_eq_zero_iff.1 h0
   subst e
   have hrun:=run_append_zero w base _ _ hown (some ⟨g,off,none⟩) c
   unfold Oper.wp
   simp at hx
   simp [execOp,ho,resolve,invoke,builtin,hs,hx,hty,hrun,Result.andThen]
   exact h sv cv w hown ⟨fun _ _ _=>rfl,Below.refl _ _,fun k hk=>.inr hk⟩
  ·obtain ⟨i0,hi0,hz0,hz1,hz2⟩:=infoInt
   refine wp_append_lies w s x 51 ho base 3 i0 _ 1 8 Tryz.underlying51 hi0 hz0 hz1 hz2 rfl (by decide) _ 0 _ hs hown ⟨g,off,none⟩ l.length c (l.map (Value.int .i64)) hx (by simp) (news_row hc) (fun u hu=>by obtain ⟨z,-,rfl⟩:=List.mem_map.1 hu;rfl) hl (by unfold maxLen;omega) (by omega) hbase _ rfl ?_
   intro g' cap w' q1 q2 q3 q4
   have hb:Below base w w':=Below.grown (Below.refl _ _) q2 hbase (fun j hj=>(World.ownsRow.lt hown _ hj).1)
   rw [Nat.zero_add]
   rw [Nat.zero_add] at q1
   refine h _ _ w' (by show w'.ownsRow base 3 1 _ l.length (l.map (Value.int .i64));exact q1) ⟨fun k hk hne=>q2.block k hk (fun e=>hne e.symm),hb,fun k hk=>?_⟩
   injection hk with hk
   rcases q3 with q3 | q3
   ·exact .inr (by rw [q3];exact congrArg some hk)
   ·exact .inl (by have:g'=k:=hk;omega)
theorem app_copyI {ops : Array Oper} {rest : List Oper} {o : Oper} {a : Act} {Q : Exit → Act → World → Prop} (hgd : o.guard = none) (s x : Operand) (hty : o.type = 51) (ho : o.op = .call { callee := .builtin .append, args := #[s, x], argTypes := #[51, 51] }) (w : World)
  (base:Nat) (sv:Option Addr) (cv:Nat) (hs:a.eval s=.slice sv 0 cv) (hown:OwnN w base (.slice sv 0 cv) []) (sx:Option Addr) (c:Nat) (l:List Int) {lo hi:Nat} (hx:a.eval x=.slice sx l.length c) (hr:IntsR w lo hi sx l) (hn:l.length≤1073741824) (hbase:base≤w.heap.size)
  (h:∀ s' c' w',OwnN w' base (.slice s' l.length c') l→Copied w w' sv cv base l.length s' c'→wpList Tryz.prog ops Q rest (a.put o.dst (.slice s' l.length c')) w'):wpList Tryz.prog ops Q (o::rest) a w:=
 wpList_plain hgd fun _ hK=>wp_copyI s x hty ho base sv cv hs hown sx c l hx hr hn hbase fun s' c' w' h1 h2=>hK _ _ (h s' c' w' h1 h2)
theorem step_copyI {ops : Array Oper} {o : Oper} {a : Act} {K : Act → World → Prop} {Q : Exit → Act → World → Prop} {E : Prop} (hgd : o.guard = none) (s x : Operand) (hty : o.type = 51) (ho : o.op = .call { callee := .builtin .append, args := #[s, x], argTypes := #[51, 51] }) (w : World)
  (base:Nat) (sv:Option Addr) (cv:Nat) (hs:a.eval s=.slice sv 0 cv) (hown:OwnN w base (.slice sv 0 cv) []) (sx:Option Addr) (c:Nat) (l:List Int) {lo hi:Nat} (hx:a.eval x=.slice sx l.length c) (hr:IntsR w lo hi sx l) (hn:l.length≤1073741824) (hbase:base≤w.heap.size)
  (h:∀ s' c' w',OwnN w' base (.slice s' l.length c') l→Copied w w' sv cv base l.length s' c'→K (a.put o.dst (.slice s' l.length c')) w'):if Region.wanted o (yielded ops a.tmps)=true then Oper.wp Tryz.prog o a w K Q else E:=by
 have hw:Region.wanted o (yielded ops a.tmps)=true:=by simp [Region.wanted,hgd]
 rw [if_pos hw]
 exact wp_copyI s x hty ho base sv cv hs hown sx c l hx hr hn hbase h
end
end Go.Proofs.YtlbeploopclegaaGreat
