/- How the laws copy a list of steps into new memory that may be written. Conditions: lists of at most 1048576 steps. Rows of steps, of cores and of notes as rows of records; boxes of four cells that may be written. No condition. How the laws copy machines into new memory that may be written. Conditions: they are counted. How the laws copy cores into new memory that may be written. Conditions: they are counted. Machines that may be written, and how the laws copy one. Conditions: it is counted. Boxes of four cells that a law keeps. No condition. laws.eqStep says yes of a step and itself; it makes memory, and turns none. No condition. -/
import Derived.Test.YtlbeploopclegaaGreatPG00
import Derived.Test.YtlbeploopclegaaGreatPG01
import Derived.Test.YtlbeploopclegaaGreatPG02
import Derived.Test.YtlbeploopclegaaGreatPG03
import Derived.Test.YtlbeploopclegaaGreatPG04
import Derived.Test.YtlbeploopclegaaGreatPC7Leaf
namespace Go.Proofs.YtlbeploopclegaaGreat
section
set_option linter.unusedSimpArgs false
set_option linter.unusedVariables false
set_option maxRecDepth 100000
section
open Go.RowKit
set_option maxHeartbeats 400000 in
theorem toStepS_fz (g off c : Nat) (l : List I5) (w : World) (hg : g < w.heap.size) (hl : l.length ≤ 1048576) (hc : ∀ i, i < l.length → At5 w g (off + i * 5) (l.getD i z5)) :
  Calls Tryz.prog 64 #[.slice (some ⟨g,off,none⟩) l.length c] w fun e w'=>e=.returned (.slice (some ⟨w.heap.size,0,none⟩) l.length l.length)∧Below w.heap.size w w'∧w.heap.size < w'.heap.size∧(∀ i,i < l.length→At5 w' w.heap.size (0+i * 5) (l.getD i z5))∧∀ j,j < l.length * 5→w'.frozen? ⟨w.heap.size,j,none⟩=false:=by
 have hmk:=mk25 l.length hl
 have HC:Hid (∀ i,i < l.length→At5 w g (off+i * 5) (l.getD i z5)):=hc
 clear hc
 go_enter Tryz.func64,Tryz.ntmps64
 go_wp2
 clear hmk
 go_loopw [4] (fun i wr=>∃ k:Nat,k≤l.length∧i=.int .i64 k∧Below w.heap.size w wr∧w.heap.size < wr.heap.size∧(∀ j,j < l.length * 5→(wr.cell? ⟨w.heap.size,j,none⟩).isSome=true)∧(∀ j,j < l.length * 5→wr.frozen? ⟨w.heap.size,j,none⟩=false)∧(∀ i,i < k→At5 wr w.heap.size (0+i * 5) (l.getD i z5))) (fun i _=>l.length - (intOf i).toNat)
 case atStart=>exact ⟨0,Nat.zero_le _,rfl,(Below.refl _ _).alloc (Nat.le_refl _) _,by simp,fun j hj=>new_cell (by rw [size_madeCells];exact hj),fun j hj=>new_frozen,fun i hi=>absurd hi (Nat.not_lt_zero _)⟩
 case round=>
  obtain ⟨k,hk,rfl,hb,hsz,hso,hfz,hdone⟩:=hrel
  have HB:Hid (Below w.heap.size w wr):=hb
  have HSO:Hid (∀ j,j < l.length * 5→(wr.cell? ⟨w.heap.size,j,none⟩).isSome=true):=hso
  have HFZ:Hid (∀ j,j < l.length * 5→wr.frozen? ⟨w.heap.size,j,none⟩=false):=hfz
  have HD:Hid (∀ i,i < k→At5 wr w.heap.size (0+i * 5) (l.getD i z5)):=hdone
  clear hb hso hfz hdone
  by_cases hlt:k < l.length
  ·obtain ⟨f0,f1,f2,f3,f4⟩:=(HC.out k hlt).keep HB.out hg
   generalize hx:l.getD k z5=x at f0 f1 f2 f3 f4
   have HX:Hid (l.getD k z5=x):=hx
   clear hx
   obtain ⟨xo,xr,xa,xb,xn⟩:=x
   have b0:(0:Int)≤(k:Int):=by omega
   have b1:(k:Int) < (l.length:Int):=by omega
   go_wp2_with fail
   refine (toStep_any _ _ _ _ _ _).mono ?_
   rintro e w1 ⟨rfl,hb1⟩
   have HB1:Hid (Below wr.heap.size wr w1):=hb1
   clear hb1 f0 f1 f2 f3 f4
   have C:∀ j,j < 5→∃ u,w1.cell? ⟨w.heap.size,k * 5+j,none⟩=some u:=fun j hj=>by
    rw [HB1.out.cell (p:=⟨w.heap.size,k * 5+j,none⟩) hsz]
    exact Option.isSome_iff_exists.1 (HSO.out (k * 5+j) (by omega))
   have Z:∀ j,j < 5→w1.frozen? ⟨w.heap.size,k * 5+j,none⟩=false:=fun j hj=>by
    rw [HB1.out.frozen (p:=⟨w.heap.size,k * 5+j,none⟩) hsz]
    exact HFZ.out (k * 5+j) (by omega)
   obtain ⟨u0,g0⟩:=C 0 (by omega)
   obtain ⟨u1,g1⟩:=C 1 (by omega)
   obtain ⟨u2,g2⟩:=C 2 (by omega)
   obtain ⟨u3,g3⟩:=C 3 (by omega)
   obtain ⟨u4,g4⟩:=C 4 (by omega)
   have z0:=Z 0 (by omega)
   have z1:=Z 1 (by omega)
   have z2:=Z 2 (by omega)
   have z3:=Z 3 (by omega)
   have z4:=Z 4 (by omega)
   rw [Nat.add_zero] at g0 z0
   clear C Z
   go_wp2
   go_roundw
   case rel=>
    show ∃ k':Nat,_∧_∧Below w.heap.size w (set5 w1 w.heap.size (k * 5) ⟨xo,xr,xa,xb,xn⟩)∧_ < (set5 w1 w.heap.size (k * 5) ⟨xo,xr,xa,xb,xn⟩).heap.size∧(∀ j,_→((set5 w1 w.heap.size (k * 5) ⟨xo,xr,xa,xb,xn⟩).cell? _).isSome=true)∧(∀ j,_→(set5 w1 w.heap.size (k * 5) ⟨xo,xr,xa,xb,xn⟩).frozen? _=false)∧(∀ i,_→At5 (set5 w1 w.heap.size (k * 5) ⟨xo,xr,xa,xb,xn⟩) _ _ _)
    have hs1:=HB1.out.size
    refine ⟨k+1,by omega,by go_num,set5_below (HB.out.trans (HB1.out.mono (by omega))) (Nat.le_refl _),by rw [set5_size];omega,?_,?_,?_⟩
    ·intro j hj
     refine set5_some ?_
     rw [HB1.out.cell (p:=⟨w.heap.size,j,none⟩) hsz]
     exact HSO.out j hj
    ·intro j hj
     rw [set5_frozen,HB1.out.frozen (p:=⟨w.heap.size,j,none⟩) hsz]
     exact HFZ.out j hj
    ·intro i hi
     by_cases e:i=k
     ·subst e
      rw [HX.out,Nat.zero_add]
      exact set5_at (by rw [g0];rfl) (by rw [g1];rfl) (by rw [g2];rfl) (by rw [g3];rfl) (by rw [g4];rfl)
     ·exact ((HD.out i (by omega)).keep HB1.out hsz).set5_off (by omega)
   case measure=>simp [intOf];omega
  ·go_wp2
   go_ret
   have:k=l.length:=by omega
   subst this
   exact ⟨rfl,HB.out,hsz,HD.out,HFZ.out⟩
end
section
open Go.RowKit
theorem VO.far2 {w w':World} {lo hi:Nat} {x:VS} {l:List Int} (h:VO w lo hi x l) (hk:∀ a∈vAs x,w'.heap[a.block]? =w.heap[a.block]?):VO w' lo hi x l:=by
 refine ⟨h.n,?_⟩
 rcases h.c with e | ⟨g,o,hs,h1,h2,hc⟩
 ·exact .inl e
 ·refine .inr ⟨g,o,hs,h1,h2,fun i hi=>?_⟩
  have hb:=hk ⟨g,o+i,none⟩ (mem_vAs.2 ⟨i,by rw [h.n];exact hi,by rw [hs];rfl⟩)
  exact ⟨(World.cell?_of_block (w:=w) hb).trans (hc i hi).1,(World.frozen?_of_block (w:=w) hb).trans (hc i hi).2⟩
theorem FO.far {w w':World} {lo hi:Nat} {a:Addr} {f:FS} {v:FV} (h:FO w lo hi a f v) (hc:w'.cell? a=w.cell? a) (hz:w'.frozen? a=w.frozen? a) (hk:∀ x e,f=.r x e→∀ b∈vAs (x.wide e),w'.heap[b.block]? =w.heap[b.block]?):FO w' lo hi a f v:=by
 cases f<;>cases v<;>first | exact h | skip
 ·exact ⟨hc.trans h.1,hz.trans h.2.1,h.2.2⟩
 ·exact ⟨hc.trans h.1,h.2.1,h.2.2.far2 (hk _ _ rfl)⟩
def fl5:List I5→List Int
 | []=>[]
 | x::r=>[x.o,x.r,x.a,x.b,x.n]++fl5 r
theorem fl5_len:∀ l:List I5,(fl5 l).length=l.length * 5
 | []=>rfl
 | x::r=>by simp [fl5,fl5_len r];omega
theorem fl5_at:∀ (l:List I5) (i:Nat) (x:I5),l[i]? =some x→(fl5 l)[i * 5]? =some x.o∧(fl5 l)[i * 5+1]? =some x.r∧(fl5 l)[i * 5+2]? =some x.a∧(fl5 l)[i * 5+3]? =some x.b∧(fl5 l)[i * 5+4]? =some x.n
 | [],i,x,h=>by simp at h
 | y::r,0,x,h=>by
  simp at h
  subst h
  exact ⟨rfl,rfl,rfl,rfl,rfl⟩
 | y::r,i+1,x,h=>by
  have h':r[i]? =some x:=by simpa using h
  have e:=fl5_at r i x h'
  have e0:(i+1) * 5=i * 5+5:=by omega
  rw [e0]
  exact e
theorem vo_steps {w:World} {lo hi g c:Nat} {l:List I5} (h1:lo≤g) (h2:g < hi) (hc:∀ i,i < l.length→At5 w g (0+i * 5) (l.getD i z5)) (hz:∀ j,j < l.length * 5→w.frozen? ⟨g,j,none⟩=false):VO w lo hi ((⟨some ⟨g,0,none⟩,l.length,c⟩:VS).wide 5) (fl5 l):=by
 refine ⟨by simp [VS.wide,fl5_len],.inr ⟨g,0,rfl,h1,h2,fun i hi=>?_⟩⟩
 rw [fl5_len] at hi
 rw [Nat.zero_add]
 refine ⟨?_,hz i hi⟩
 have hk:i / 5 < l.length:=by omega
 have hx:l[i / 5]? =some (l.getD (i / 5) z5):=by rw [List.getD_eq_getElem?_getD,List.getElem?_eq_getElem hk];rfl
 obtain ⟨c0,c1,c2,c3,c4⟩:=hc (i / 5) hk
 obtain ⟨e0,e1,e2,e3,e4⟩:=fl5_at l (i / 5) _ hx
 rw [Nat.zero_add] at c0 c1 c2 c3 c4
 rw [List.getD_eq_getElem?_getD]
 rcases (show i % 5=0∨i % 5=1∨i % 5=2∨i % 5=3∨i % 5=4 by omega) with h | h | h | h | h
 ·have e:i=i / 5 * 5:=by omega
  rw [e];rw [e0];exact c0
 ·have e:i=i / 5 * 5+1:=by omega
  rw [e];rw [e1];exact c1
 ·have e:i=i / 5 * 5+2:=by omega
  rw [e];rw [e2];exact c2
 ·have e:i=i / 5 * 5+3:=by omega
  rw [e];rw [e3];exact c3
 ·have e:i=i / 5 * 5+4:=by omega
  rw [e];rw [e4];exact c4
def codeV (l:List I5):List FV:=[.r (fl5 l)]
def coreV (k:KD):List FV:=[.i k.pc,.r k.regs,.r k.vw,.i k.st]
def TC:List (Option Nat):=[some 5]
def TK:List (Option Nat):=[none,some 1,some 1,none]
def fl2:List ND→List Int
 | []=>[]
 | x::r=>[x.who,x.v]++fl2 r
theorem fl2_len:∀ l:List ND,(fl2 l).length=l.length * 2
 | []=>rfl
 | x::r=>by simp [fl2,fl2_len r];omega
theorem flatN_fl2:∀ l:List ND,flatN l=(fl2 l).map (Value.int .i64)
 | []=>rfl
 | x::r=>by simp [flatN,fl2,flatN_fl2 r]
theorem wide_one (x:VS):x.wide 1=x:=by cases x;simp [VS.wide]
/- a row that is owned whole -/
theorem own_vo {w:World} {base n size:Nat} {e:TypeId} {v:Value} {l:List Int} (h:w.ownsRow base e size v n (l.map (Value.int .i64))) (hl:l.length=n * size):∃ s c,v=.slice s n c∧VO w base w.heap.size ((⟨s,n,c⟩:VS).wide size) l:=by
 rcases Nat.eq_zero_or_pos n with h0 | hpos
 ·subst h0
  obtain ⟨s,c,e⟩:=ownSl h
  exact ⟨s,c,e,⟨by simp [VS.wide,hl],.inl (List.length_eq_zero_iff.1 (by simpa using hl))⟩⟩
 ·obtain ⟨g,cap,rfl,-⟩:=World.ownsRow.form h hpos
  have hlt:=World.ownsRow.lt h g rfl
  refine ⟨_,_,rfl,⟨by simp [VS.wide,hl],.inr ⟨g,0,rfl,hlt.1,hlt.2,fun i hi=>?_⟩⟩⟩
  rw [Nat.zero_add]
  refine ⟨?_,World.ownsRow.frozenAt h i⟩
  rw [World.ownsRow.cellAt h i (by omega),List.getElem?_map,List.getD_eq_getElem?_getD,List.getElem?_eq_getElem hi]
  rfl
theorem ownN_vo {w:World} {base n c:Nat} {s:Option Addr} {l:List Int} (h:OwnN w base (.slice s n c) l) (hn:n=l.length):VO w base w.heap.size ⟨s,n,c⟩ l:=by
 subst hn
 obtain ⟨s',c',e,hv⟩:=own_vo (size:=1) h (by simp)
 injection e with e1 e2 e3
 subst e1 e3
 rw [wide_one] at hv
 exact hv
theorem OwnD.vo {w:World} {base n c:Nat} {s:Option Addr} {l:List ND} (h:OwnD w base (.slice s n c) l) (hn:n=l.length):VO w base w.heap.size ((⟨s,n,c⟩:VS).wide 2) (fl2 l):=by
 subst hn
 unfold OwnD at h
 rw [flatN_fl2] at h
 obtain ⟨s',c',e,hv⟩:=own_vo h (fl2_len l)
 injection e with e1 e2 e3
 subst e1 e3
 exact hv
/- reading what is owned -/
theorem VO.insR {w:World} {lo hi:Nat} {s:Option Addr} {c:Nat} {l:List I5} (h:VO w lo hi ((⟨s,l.length,c⟩:VS).wide 5) (fl5 l)):InsR w lo hi s l:=by
 rcases h.c with e | ⟨g,o,hs,h1,h2,hc⟩
 ·have:=fl5_len l
  rw [e] at this
  exact .inl (List.length_eq_zero_iff.1 (by simp at this;omega))
 ·refine .inr ⟨g,o,hs,h1,h2,fun i hi=>?_⟩
  have hx:l[i]? =some (l.getD i z5):=by rw [List.getD_eq_getElem?_getD,List.getElem?_eq_getElem hi];rfl
  obtain ⟨e0,e1,e2,e3,e4⟩:=fl5_at l i _ hx
  have q:∀ j,j < 5→w.cell? ⟨g,o+i * 5+j,none⟩=some (.int .i64 ((fl5 l).getD (i * 5+j) 0)):=fun j hj=>by
   have:=(hc (i * 5+j) (by rw [fl5_len];omega)).1
   rw [← Nat.add_assoc] at this
   exact this
  have q0:=q 0 (by omega)
  have q1:=q 1 (by omega)
  have q2:=q 2 (by omega)
  have q3:=q 3 (by omega)
  have q4:=q 4 (by omega)
  rw [List.getD_eq_getElem?_getD] at q0 q1 q2 q3 q4
  rw [Nat.add_zero,Nat.add_zero,e0] at q0
  rw [e1] at q1
  rw [e2] at q2
  rw [e3] at q3
  rw [e4] at q4
  exact ⟨q0,q1,q2,q3,q4⟩
theorem kindC {rec:List FS} (h:rec.map FS.kind=TC):∃ x,rec=[.r x 5]:=by
 match rec,h with
 | [.r x e],h=>
  simp [TC,FS.kind] at h
  exact ⟨x,by rw [h]⟩
 | [.i],h=>simp [TC,FS.kind] at h
 | [],h=>simp [TC] at h
 | _::_::_,h=>simp [TC] at h
theorem kindK {rec:List FS} (h:rec.map FS.kind=TK):∃ x y,rec=[.i,.r x 1,.r y 1,.i]:=by
 match rec,h with
 | [.i,.r x e,.r y e',.i],h=>
  simp [TK,FS.kind] at h
  exact ⟨x,y,by rw [h.1,h.2]⟩
 | [],h=>simp [TK] at h
 | [_],h=>simp [TK] at h
 | [_,_],h=>simp [TK] at h
 | [_,_,_],h=>simp [TK] at h
 | .r _ _::_::_::_::_,h=>simp [TK,FS.kind] at h
 | .i::.i::_::_::_,h=>simp [TK,FS.kind] at h
 | .i::.r _ _::.i::_::_,h=>simp [TK,FS.kind] at h
 | .i::.r _ _::.r _ _::.r _ _::_,h=>simp [TK,FS.kind] at h
 | .i::.r _ _::.r _ _::.i::_::_,h=>simp [TK,FS.kind] at h
theorem GO.csR {w:World} {lo hi:Nat} {s:Option Addr} {R:List (List FS)} {l:List (List I5)} (h:GO w lo hi s TC R (l.map codeV)):CsR w lo hi s l:=by
 rcases h.rok with e | ⟨g,o,rfl⟩
 ·exact .inl (by simpa using e)
 ·rcases Nat.eq_zero_or_pos l.length with h0 | hpos
  ·exact .inl (List.length_eq_zero_iff.1 h0)
  have at1:∀ i x,l[i]? =some x→CR w lo hi g (o+i) x∧lo≤g∧g < hi:=fun i x hx=>by
   have hv:(l.map codeV)[i]? =some (codeV x):=by rw [List.getElem?_map,hx];rfl
   obtain ⟨rec,hr⟩:=at_same h.n hv
   obtain ⟨y,rfl⟩:=kindC (h.t i rec hr)
   have q:=(h.c i _ _ hr hv).2 0 (.r y 5) (.r (fl5 x)) rfl rfl
   obtain ⟨q1,q2,q3⟩:=q
   have hn:y.n=x.length:=by
    have:=q3.n
    rw [fl5_len] at this
    simp [VS.wide] at this
    omega
   obtain ⟨ys,yn,yc⟩:=y
   simp only at hn
   subst hn
   refine ⟨⟨ys,yc,?_,q3.insR⟩,q2⟩
   simpa [adr,TC] using q1
  have h0:=at1 0 _ (List.getElem?_eq_getElem hpos)
  exact .inr ⟨g,o,rfl,h0.2.1,h0.2.2,fun i x hx=>(at1 i x hx).1⟩
theorem GO.ksR {w:World} {lo hi:Nat} {s:Option Addr} {R:List (List FS)} {l:List KD} (h:GO w lo hi s TK R (l.map coreV)):KsR w lo hi s l:=by
 rcases h.rok with e | ⟨g,o,rfl⟩
 ·exact .inl (by simpa using e)
 ·rcases Nat.eq_zero_or_pos l.length with h0 | hpos
  ·exact .inl (List.length_eq_zero_iff.1 h0)
  have at1:∀ i x,l[i]? =some x→KR w lo hi g (o+i * 4) x∧lo≤g∧g < hi:=fun i x hx=>by
   have hv:(l.map coreV)[i]? =some (coreV x):=by rw [List.getElem?_map,hx];rfl
   obtain ⟨rec,hr⟩:=at_same h.n hv
   obtain ⟨y,y',rfl⟩:=kindK (h.t i rec hr)
   have q:=(h.c i _ _ hr hv).2
   have q0:=q 0 .i (.i x.pc) rfl rfl
   have q1:=q 1 (.r y 1) (.r x.regs) rfl rfl
   have q2:=q 2 (.r y' 1) (.r x.vw) rfl rfl
   have q3:=q 3 .i (.i x.st) rfl rfl
   obtain ⟨a1,a2,a3⟩:=q1
   obtain ⟨b1,b2,b3⟩:=q2
   rw [wide_one] at a3 b3
   have n1:=a3.n
   have n2:=b3.n
   obtain ⟨ys,yn,yc⟩:=y
   obtain ⟨zs,zn,zc⟩:=y'
   simp only at n1 n2
   subst n1 n2
   have e:∀ j,o+(i * 4+j)=o+i * 4+j:=fun j=>by omega
   simp only [adr,TK,List.length,e] at q0 a1 b1 q3 a2
   exact ⟨⟨ys,yc,zs,zc,q0.1,a1,b1,q3.1,a3.ints,b3.ints⟩,a2⟩
  have h0:=at1 0 _ (List.getElem?_eq_getElem hpos)
  exact .inr ⟨g,o,rfl,h0.2.1,h0.2.2,fun i x hx=>(at1 i x hx).1⟩
theorem fl2_at:∀ (l:List ND) (i:Nat) (x:ND),l[i]? =some x→(fl2 l)[i * 2]? =some x.who∧(fl2 l)[i * 2+1]? =some x.v
 | [],i,x,h=>by simp at h
 | y::r,0,x,h=>by
  simp at h
  subst h
  exact ⟨rfl,rfl⟩
 | y::r,i+1,x,h=>by
  have h':r[i]? =some x:=by simpa using h
  have e:=fl2_at r i x h'
  have e0:(i+1) * 2=i * 2+2:=by omega
  rw [e0]
  exact e
theorem VO.ntsR {w:World} {lo hi:Nat} {s:Option Addr} {n c:Nat} {l:List ND} (h:VO w lo hi ((⟨s,n,c⟩:VS).wide 2) (fl2 l)):NtsR w lo hi s l:=by
 rcases h.c with e | ⟨g,o,hs,h1,h2,hc⟩
 ·have:=fl2_len l
  rw [e] at this
  exact .inl (List.length_eq_zero_iff.1 (by simp at this;omega))
 ·refine .inr ⟨g,o,hs,h1,h2,fun i x hx=>?_⟩
  have hi:=(List.getElem?_eq_some_iff.1 hx).1
  obtain ⟨e0,e1⟩:=fl2_at l i _ hx
  have q0:=(hc (i * 2) (by rw [fl2_len];omega)).1
  have q1:=(hc (i * 2+1) (by rw [fl2_len];omega)).1
  rw [List.getD_eq_getElem?_getD] at q0 q1
  rw [e0] at q0
  rw [e1] at q1
  exact ⟨q0,q1⟩
/- a box of four cells that may be written -/
structure X4 (w:World) (b:Nat) (v0 v1 v2 v3:Value):Prop where
 x:B4 w b v0 v1 v2 v3
 fz:∀ j,w.frozen? ⟨b,j,none⟩=false
theorem X4.keep {w w':World} {b:Nat} {v0 v1 v2 v3:Value} (h:X4 w b v0 v1 v2 v3) {B:Nat} (hb:Below B w w') (hB:b < B):X4 w' b v0 v1 v2 v3:=
 ⟨h.x.keep hb hB,fun j=>(hb.frozen (p:=⟨b,j,none⟩) hB).trans (h.fz j)⟩
theorem X4.off {w:World} {b g j:Nat} {v0 v1 v2 v3 u:Value} (h:X4 w b v0 v1 v2 v3) (hg:b≠g):X4 (w.setCell ⟨g,j,none⟩ u) b v0 v1 v2 v3:=
 ⟨⟨by simpa using h.x.z,(setC_blk (Ne.symm hg)).trans h.x.c0,(setC_blk (Ne.symm hg)).trans h.x.c1,(setC_blk (Ne.symm hg)).trans h.x.c2,(setC_blk (Ne.symm hg)).trans h.x.c3⟩,fun j=>by rw [World.frozen?_setCell];exact h.fz j⟩
theorem X4.set0 {w:World} {b:Nat} {v0 v1 v2 v3 u:Value} (h:X4 w b v0 v1 v2 v3):X4 (w.setCell ⟨b,0,none⟩ u) b u v1 v2 v3:=
 ⟨⟨by simpa using h.x.z,setC_at (by rw [h.x.c0];rfl),(setC_off (by omega)).trans h.x.c1,(setC_off (by omega)).trans h.x.c2,(setC_off (by omega)).trans h.x.c3⟩,fun j=>by rw [World.frozen?_setCell];exact h.fz j⟩
theorem X4.set1 {w:World} {b:Nat} {v0 v1 v2 v3 u:Value} (h:X4 w b v0 v1 v2 v3):X4 (w.setCell ⟨b,1,none⟩ u) b v0 u v2 v3:=
 ⟨⟨by simpa using h.x.z,(setC_off (by omega)).trans h.x.c0,setC_at (by rw [h.x.c1];rfl),(setC_off (by omega)).trans h.x.c2,(setC_off (by omega)).trans h.x.c3⟩,fun j=>by rw [World.frozen?_setCell];exact h.fz j⟩
theorem X4.set2 {w:World} {b:Nat} {v0 v1 v2 v3 u:Value} (h:X4 w b v0 v1 v2 v3):X4 (w.setCell ⟨b,2,none⟩ u) b v0 v1 u v3:=
 ⟨⟨by simpa using h.x.z,(setC_off (by omega)).trans h.x.c0,(setC_off (by omega)).trans h.x.c1,setC_at (by rw [h.x.c2];rfl),(setC_off (by omega)).trans h.x.c3⟩,fun j=>by rw [World.frozen?_setCell];exact h.fz j⟩
theorem X4.set3 {w:World} {b:Nat} {v0 v1 v2 v3 u:Value} (h:X4 w b v0 v1 v2 v3):X4 (w.setCell ⟨b,3,none⟩ u) b v0 v1 v2 u:=
 ⟨⟨by simpa using h.x.z,(setC_off (by omega)).trans h.x.c0,(setC_off (by omega)).trans h.x.c1,(setC_off (by omega)).trans h.x.c2,setC_at (by rw [h.x.c3];rfl)⟩,fun j=>by rw [World.frozen?_setCell];exact h.fz j⟩
theorem X4.new (w:World) (v0 v1 v2 v3:Value) (T:TypeId):∃ W,w.alloc (.cells #[v0,v1,v2,v3] T)=W∧X4 W w.heap.size v0 v1 v2 v3∧Below w.heap.size w W∧w.heap.size < W.heap.size:=by
 refine ⟨_,rfl,⟨⟨?_,?_,?_,?_,?_⟩,?_⟩,(Below.refl _ _).alloc (Nat.le_refl _) _,?_⟩<;>first | (simp [go_sem];done) | (intro j;simp [go_sem])
theorem three4 {w W:World} {a b c d a' b' c' d' a2 b2 c2 d2:Value} {T T' T2:TypeId} (hW:((w.alloc (.cells #[a,b,c,d] T)).alloc (.cells #[a',b',c',d'] T')).alloc (.cells #[a2,b2,c2,d2] T2)=W):Below w.heap.size w W∧X4 W w.heap.size a b c d∧X4 W (w.heap.size+1) a' b' c' d'∧X4 W (w.heap.size+1+1) a2 b2 c2 d2∧W.heap.size=w.heap.size+3:=by
 subst hW
 refine ⟨(((Below.refl _ _).alloc (Nat.le_refl _) _).alloc (by simp) _).alloc (by simp;omega) _,⟨⟨?_,?_,?_,?_,?_⟩,?_⟩,⟨⟨?_,?_,?_,?_,?_⟩,?_⟩,⟨⟨?_,?_,?_,?_,?_⟩,?_⟩,?_⟩<;>first | (simp [go_sem];done) | (simp [go_sem];omega) | (intro j;simp [go_sem])
end
section
open Go.RowKit
theorem toStepS_vo (s : Option Addr) (c lo hi : Nat) (l : List I5) (w : World) (h : InsR w lo hi s l) (hB : hi ≤ w.heap.size) (hl : l.length ≤ 1048576) :
  Calls Tryz.prog 64 #[.slice s l.length c] w fun e w'=>e=.returned (.slice (some ⟨w.heap.size,0,none⟩) l.length l.length)∧Below w.heap.size w w'∧w.heap.size < w'.heap.size∧VO w' w.heap.size w'.heap.size ((⟨some ⟨w.heap.size,0,none⟩,l.length,l.length⟩:VS).wide 5) (fl5 l):=by
 rcases h with rfl | ⟨g,off,rfl,hg,hg',hc⟩
 ·refine (toStepS_none s c w).mono ?_
  rintro e w' ⟨rfl,hb,hsz⟩
  exact ⟨rfl,hb,hsz,⟨rfl,.inl rfl⟩⟩
 ·refine (toStepS_fz g off c l w (by omega) hl hc).mono ?_
  rintro e w' ⟨rfl,hb,hsz,hc',hz⟩
  exact ⟨rfl,hb,hsz,vo_steps (Nat.le_refl _) hsz hc' hz⟩
theorem mkSS8 (n:Nat) (hn:n≤1048576) (w:World):(Instr.makeSlice 31 (.int .i64 (n:Int)) (.int .i64 (n:Int))).run Tryz.prog w=.ok (.slice (some ⟨w.heap.size,0,none⟩) n n) (w.alloc (.cells (madeCells #[.slice none 0 0] (n * 1)) 102)):=by
 have h:=run_make (P:=Tryz.prog) w 31 102 _ (.slice none 0 0) Tryz.underlying31 rfl rfl .i64 .i64 n n (by omega) (Int.le_refl _) (by show (24:Int) * _≤_;omega) (by omega)
 have e:(Value.slice none 0 0).cells=#[.slice none 0 0]:=rfl
 have e':∀ t,Tryz.prog.info? 102=some t→t.size=1:=by intro t h;cases h;rfl
 rw [e,e' _ rfl] at h
 simpa using h
set_option maxHeartbeats 1000000 in
theorem toStepSS_own (s : Option Addr) (c lo hi : Nat) (m : List (List I5)) (w : World) (h : CsR w lo hi s m) (hB : hi ≤ w.heap.size) (hl : m.length + szC m ≤ 1048576) :
  Calls Tryz.prog 26 #[.slice s m.length c] w fun e w'=>∃ R,e=.returned (.slice (some ⟨w.heap.size,0,none⟩) m.length m.length)∧GO w' w.heap.size w'.heap.size (some ⟨w.heap.size,0,none⟩) TC R (m.map codeV)∧Below w.heap.size w w'∧w.heap.size < w'.heap.size:=by
 have hmk:=mkSS8 m.length (by omega)
 have HC:Hid (CsR w lo hi s m):=h
 have HLS:Hid (∀ (i:Nat) (t:List I5),m[i]? =some t→t.length≤1048576):=fun i t ht=>by have:=szC_at m i t ht;omega
 clear h
 go_enter Tryz.func26,Tryz.ntmps26
 go_wp2
 clear hmk
 go_loopw [4] (fun i wr=>∃ k:Nat,k≤m.length∧i=.int .i64 k∧Below w.heap.size w wr∧w.heap.size < wr.heap.size∧(∀ j,j < m.length→(wr.cell? ⟨w.heap.size,j,none⟩).isSome=true)∧(∀ j,wr.frozen? ⟨w.heap.size,j,none⟩=false)∧∃ R,GO wr w.heap.size wr.heap.size (some ⟨w.heap.size,0,none⟩) TC R ((m.take k).map codeV)) (fun i _=>m.length - (intOf i).toNat)
 case atStart=>
  exact ⟨0,Nat.zero_le _,rfl,(Below.refl _ _).alloc (Nat.le_refl _) _,by simp,fun j hj=>new_cell (by rw [size_madeCells];omega),fun j=>new_frozen,[],GO.nil _ _ _ _ _⟩
 case round=>
  obtain ⟨k,hk,rfl,hb,hsz,hso,hfz,R,hro⟩:=hrel
  have HB:Hid (Below w.heap.size w wr):=hb
  have HSO:Hid (∀ j,j < m.length→(wr.cell? ⟨w.heap.size,j,none⟩).isSome=true):=hso
  have HFZ:Hid (∀ j,wr.frozen? ⟨w.heap.size,j,none⟩=false):=hfz
  have HRO:Hid (GO wr w.heap.size wr.heap.size (some ⟨w.heap.size,0,none⟩) TC R ((m.take k).map codeV)):=hro
  clear hb hso hfz hro
  by_cases hlt:k < m.length
  ·obtain ⟨t,ht⟩:∃ t,m[k]? =some t:=⟨_,List.getElem?_eq_getElem hlt⟩
   obtain ⟨g,off,s1,c1,hs,hg1,hg,f0,hin⟩:=(HC.out.keep (Keep.of_below HB.out hB)).at ht
   subst hs
   have HL:Hid (t.length≤1048576):=HLS.out k t ht
   have HT:Hid ((m.take (k+1)).map codeV=(m.take k).map codeV++[codeV t]):=by show (m.take (k+1)).map codeV=(m.take k).map codeV++[codeV t];rw [List.take_add_one,ht];simp
   have TL:Hid (((m.take k).map codeV).length=k):=by show ((m.take k).map codeV).length=k;simp;omega
   have HIN:Hid (InsR wr lo hi s1 t):=hin
   clear ht hin
   have b0:(0:Int)≤(k:Int):=by omega
   have b1:(k:Int) < (m.length:Int):=by omega
   go_wp2_with fail
   refine (toStepS_vo s1 c1 lo hi t wr HIN.out (by omega) HL.out).mono ?_
   rintro e w1 ⟨rfl,hb1,hz1,ho1⟩
   have HB1:Hid (Below wr.heap.size wr w1):=hb1
   have HO1:=(show Hid (VO w1 wr.heap.size w1.heap.size ((⟨some ⟨wr.heap.size,0,none⟩,t.length,t.length⟩:VS).wide 5) (fl5 t)) from ho1)
   have HSO1:Hid (∀ j,j < m.length→(w1.cell? ⟨w.heap.size,j,none⟩).isSome=true):=fun j hj=>by rw [hb1.cell (p:=⟨w.heap.size,j,none⟩) hsz];exact HSO.out j hj
   have hfz:∀ j,w1.frozen? ⟨w.heap.size,j,none⟩=false:=fun j=>by rw [hb1.frozen (p:=⟨w.heap.size,j,none⟩) hsz];exact HFZ.out j
   obtain ⟨u0,g0⟩:=Option.isSome_iff_exists.1 (HSO1.out k (by omega))
   have HZ1:Hid (wr.heap.size < w1.heap.size):=hz1
   clear hb1 ho1 f0 hz1
   go_wp2
   go_roundw
   case rel=>
    have hs1:=HB1.out.size
    have tl:=TL.out
    have hz:=HZ1.out
    have at0:(w1.setCell ⟨w.heap.size,k,none⟩ (.slice (some ⟨wr.heap.size,0,none⟩) t.length t.length)).cell? ⟨w.heap.size,k,none⟩=some (.slice (some ⟨wr.heap.size,0,none⟩) t.length t.length):=setC_at (by rw [g0];rfl)
    have far:∀ b,b≠w.heap.size→(w1.setCell ⟨w.heap.size,k,none⟩ (.slice (some ⟨wr.heap.size,0,none⟩) t.length t.length)).heap[b]? =w1.heap[b]? :=fun b hb=>Below.heap_setCell _ _ _ b hb
    have blk1:∀ a∈vAs ((⟨some ⟨wr.heap.size,0,none⟩,t.length,t.length⟩:VS).wide 5),a.block=wr.heap.size:=fun a ha=>by
     obtain ⟨i,-,rfl⟩:=mem_vAs.1 ha
     rfl
    refine ⟨k+1,by omega,by go_num,(HB.out.trans (HB1.out.mono (by omega))).setCell (p:=⟨w.heap.size,k,none⟩) (Nat.le_refl _) _,by simp;omega,fun j hj=>setC_some (HSO1.out j hj),fun j=>by rw [World.frozen?_setCell];exact hfz j,R++[[.r ⟨some ⟨wr.heap.size,0,none⟩,t.length,t.length⟩ 5]],?_⟩
    rw [HT.out]
    have e9:(w1.setCell ⟨w.heap.size,k,none⟩ (.slice (some ⟨wr.heap.size,0,none⟩) t.length t.length)).heap.size=w1.heap.size:=by simp
    rw [e9]
    have hm1:=(HRO.out.keep (Keep.of_below HB1.out (Nat.le_refl _))).mono (Nat.le_refl _) hs1
    refine GO.push (w:=w1) _ _ hm1 ⟨_,_,rfl⟩ rfl rfl (fun k' r v j f y hr hv hf hy hfo=>?_) (fun j f v hf hv=>?_) (fun x e hx a ha g o hg=>?_) ?_ (fun a ha ha'=>?_)
    ·have hk':=(List.getElem?_eq_some_iff.1 hv).1
     rw [tl] at hk'
     obtain ⟨x,rfl⟩:=kindC (hm1.t k' r hr)
     match j,hf with
     | 0,hf=>
      refine hfo.far (setC_off (by simp [TC];omega)) (by rw [World.frozen?_setCell]) (fun x' e' hx' b hb=>far _ ?_)
      simp at hf
      rw [← hf] at hx'
      exact hm1.o _ (List.mem_of_getElem? hr) x' e' (by rw [← hx'];simp) b hb _ _ rfl
    ·match j,hf,hv with
     | 0,hf,hv=>
      simp at hf
      simp [codeV] at hv
      subst hf hv
      rw [tl]
      refine ⟨?_,⟨Nat.le_refl _,by show w.heap.size < _;omega⟩,?_⟩
      ·simpa [adr,TC] using at0
      ·refine (HO1.out.mono (lo':=w.heap.size) (by omega) (Nat.le_refl _)).far2 (fun a ha=>far _ ?_)
       rw [blk1 a ha]
       omega
    ·simp at hx
     obtain ⟨rfl,rfl⟩:=hx
     rw [blk1 a ha]
     injection hg with hg
     injection hg with hg
     omega
    ·simp only [recAs,fAs,List.append_nil]
     exact vAs_nodup rfl
    ·simp only [recAs,fAs,List.append_nil] at ha'
     have h1:=(HRO.out.blk ha).2
     rw [blk1 a ha'] at h1
     omega
   case measure=>simp [intOf];omega
  ·go_wp2
   go_ret
   have:k=m.length:=by omega
   subst this
   have h1:=HRO.out
   rw [List.take_length] at h1
   exact ⟨R,rfl,h1,HB.out,hsz⟩
end
section
open Go.RowKit
set_option maxHeartbeats 1000000 in
theorem toCore_own (pc st : Int) (s s' : Option Addr) (c c' lo hi : Nat) (l m : List Int) (w : World) (h : IntsR w lo hi s l) (h' : IntsR w lo hi s' m) (hB : hi ≤ w.heap.size) (hl : l.length ≤ 1048576) (hm : m.length ≤ 1048576) :
  Calls Tryz.prog 65 #[.agg #[.int .i64 pc,.slice s l.length c,.slice s' m.length c',.int .i64 st]] w fun e w'=>∃ g g',e=.returned (.agg #[.int .i64 pc,.slice (some ⟨g,0,none⟩) l.length l.length,.slice (some ⟨g',0,none⟩) m.length m.length,.int .i64 st])∧OwnN w' w.heap.size (.slice (some ⟨g,0,none⟩) l.length l.length) l∧OwnN w' w.heap.size (.slice (some ⟨g',0,none⟩) m.length m.length) m∧Below w.heap.size w w'∧w.heap.size < w'.heap.size∧w.heap.size≤g∧g < g'∧g' < w'.heap.size:=by
 have HR:Hid (IntsR w lo hi s l):=h
 have HM:Hid (IntsR w lo hi s' m):=h'
 clear h h'
 go_enter Tryz.func65,Tryz.ntmps65
 go_wp2_with fail
 obtain ⟨W,hW⟩:∃ W,((w.alloc (.cells #[.int .i64 pc,.slice s l.length c,.slice s' m.length c',.int .i64 st] 112)).alloc (.cells #[.int .i64 0,.slice none 0 0,.slice none 0 0,.int .i64 0] 53)).alloc (.cells #[.int .i64 pc,.slice none 0 0,.slice none 0 0,.int .i64 0] 53)=W:=⟨_,rfl⟩
 obtain ⟨k0,xa,xb,xc,zw⟩:=three4 hW
 rw [hW]
 clear hW
 refine (toIntS_own s c lo hi l W (HR.out.keep (Keep.of_below k0 hB)) (by omega) hl).mono ?_
 rintro e w1 ⟨rfl,ho1,hb1,hz1⟩
 obtain ⟨G,hG,hGb⟩:∃ G,W.heap.size=G∧w.heap.size+3≤G:=⟨_,rfl,by omega⟩
 have XA:Hid (X4 w1 w.heap.size (.int .i64 pc) (.slice s l.length c) (.slice s' m.length c') (.int .i64 st)):=xa.keep hb1 (by omega)
 have XB:Hid (X4 w1 (w.heap.size+1) (.int .i64 0) (.slice none 0 0) (.slice none 0 0) (.int .i64 0)):=xb.keep hb1 (by omega)
 have XC:Hid (X4 w1 (w.heap.size+1+1) (.int .i64 pc) (.slice none 0 0) (.slice none 0 0) (.int .i64 0)):=xc.keep hb1 (by omega)
 have K1:Hid (Below w.heap.size w w1):=k0.trans (hb1.mono (by omega))
 rw [hG] at ho1 hz1
 have O1:Hid (OwnN w1 G (.slice (some ⟨G,0,none⟩) l.length l.length) l):=ho1
 have z1:G < w1.heap.size:=hz1
 rw [hG]
 clear ho1 hz1 hb1 xa xb xc k0 zw hG
 have ya:=XA.out.x
 have yc:=XC.out.x
 obtain ⟨za,ya0,ya1,ya2,ya3⟩:=ya
 obtain ⟨zc,yc0,yc1,yc2,yc3⟩:=yc
 have fc:=XC.out.fz
 go_wp2_with fail
 obtain ⟨V,hV⟩:∃ V,w1.setCell ⟨w.heap.size+1+1,1,none⟩ (.slice (some ⟨G,0,none⟩) l.length l.length)=V:=⟨_,rfl⟩
 have kv:Below w.heap.size w V:=by rw [← hV];exact K1.out.setCell (p:=⟨w.heap.size+1+1,1,none⟩) (by simp;omega) _
 have xa:X4 V w.heap.size (.int .i64 pc) (.slice s l.length c) (.slice s' m.length c') (.int .i64 st):=by rw [← hV];exact XA.out.off (by omega)
 have xb:X4 V (w.heap.size+1) (.int .i64 0) (.slice none 0 0) (.slice none 0 0) (.int .i64 0):=by rw [← hV];exact XB.out.off (by omega)
 have xc:X4 V (w.heap.size+1+1) (.int .i64 pc) (.slice (some ⟨G,0,none⟩) l.length l.length) (.slice none 0 0) (.int .i64 0):=by rw [← hV];exact XC.out.set1
 have o1:OwnN V G (.slice (some ⟨G,0,none⟩) l.length l.length) l:=by
  rw [← hV]
  exact ownKeep' O1.out (fun k hk=>by have hk2:some G=some k:=hk;injection hk2 with hk2;exact Below.heap_setCell _ _ _ _ (by simp;omega))
 have zv:V.heap.size=w1.heap.size:=by rw [← hV];simp
 rw [hV]
 clear hV XA XB XC ya0 ya1 ya2 ya3 yc0 yc1 yc2 yc3 fc K1 O1 za zc
 refine (toIntS_own s' c' lo hi m V (HM.out.keep (Keep.of_below kv hB)) (by omega) hm).mono ?_
 rintro e w2 ⟨rfl,ho2,hb2,hz2⟩
 obtain ⟨G',hG',hGb'⟩:∃ G',V.heap.size=G'∧G < G':=⟨_,rfl,by omega⟩
 have XA:Hid (X4 w2 w.heap.size (.int .i64 pc) (.slice s l.length c) (.slice s' m.length c') (.int .i64 st)):=xa.keep hb2 (by omega)
 have XB:Hid (X4 w2 (w.heap.size+1) (.int .i64 0) (.slice none 0 0) (.slice none 0 0) (.int .i64 0)):=xb.keep hb2 (by omega)
 have XC:Hid (X4 w2 (w.heap.size+1+1) (.int .i64 pc) (.slice (some ⟨G,0,none⟩) l.length l.length) (.slice none 0 0) (.int .i64 0)):=xc.keep hb2 (by omega)
 have K2:Hid (Below w.heap.size w w2):=kv.trans (hb2.mono (by omega))
 have O1:Hid (OwnN w2 G (.slice (some ⟨G,0,none⟩) l.length l.length) l):=ownKeep' o1 (fun k hk=>by have hk2:some G=some k:=hk;injection hk2 with hk2;exact hb2.block _ (by omega))
 rw [hG'] at ho2 hz2
 have O2:Hid (OwnN w2 G' (.slice (some ⟨G',0,none⟩) m.length m.length) m):=ho2
 have z2:G' < w2.heap.size:=hz2
 rw [hG']
 clear ho2 hz2 hb2 xa xb xc kv hG' o1 zv z1
 obtain ⟨za,ya0,ya1,ya2,ya3⟩:=XA.out.x
 obtain ⟨zb,yb0,yb1,yb2,yb3⟩:=XB.out.x
 obtain ⟨zc,yc0,yc1,yc2,yc3⟩:=XC.out.x
 have fb:=XB.out.fz
 have fc:=XC.out.fz
 go_wp2
 obtain ⟨Z,hZ,fin,kz,sz⟩:∃ Z,((((((w2.setCell ⟨w.heap.size+1+1,2,none⟩ (.slice (some ⟨G',0,none⟩) m.length m.length)).setCell ⟨w.heap.size+1+1,3,none⟩ (.int .i64 st)).setCell ⟨w.heap.size+1,0,none⟩ (.int .i64 pc)).setCell ⟨w.heap.size+1,1,none⟩ (.slice (some ⟨G,0,none⟩) l.length l.length)).setCell ⟨w.heap.size+1,2,none⟩ (.slice (some ⟨G',0,none⟩) m.length m.length)).setCell ⟨w.heap.size+1,3,none⟩ (.int .i64 st))=Z∧(∀ k,w.heap.size+3≤k→Z.heap[k]? =w2.heap[k]?)∧Below w.heap.size w Z∧Z.heap.size=w2.heap.size:=by
  refine ⟨_,rfl,fun k hk=>?_,?_,?_⟩
  ·rw [Below.heap_setCell _ _ _ k (by simp;omega),Below.heap_setCell _ _ _ k (by simp;omega),Below.heap_setCell _ _ _ k (by simp;omega),Below.heap_setCell _ _ _ k (by simp;omega),Below.heap_setCell _ _ _ k (by simp;omega),Below.heap_setCell _ _ _ k (by simp;omega)]
  ·refine Below.setCell (Below.setCell (Below.setCell (Below.setCell (Below.setCell (Below.setCell K2.out ?_ _) ?_ _) ?_ _) ?_ _) ?_ _) ?_ _<;>simp<;>omega
  ·simp
 have P1:OwnN Z w.heap.size (.slice (some ⟨G,0,none⟩) l.length l.length) l:=by
  have o:OwnN w2 w.heap.size (.slice (some ⟨G,0,none⟩) l.length l.length) l:=ownLow' O1.out (by omega)
  exact ownKeep' o (fun k hk=>fin k (by have hk2:some G=some k:=hk;injection hk2 with hk2;omega))
 have P2:OwnN Z w.heap.size (.slice (some ⟨G',0,none⟩) m.length m.length) m:=by
  have o:OwnN w2 w.heap.size (.slice (some ⟨G',0,none⟩) m.length m.length) m:=ownLow' O2.out (by omega)
  exact ownKeep' o (fun k hk=>fin k (by have hk2:some G'=some k:=hk;injection hk2 with hk2;omega))
 refine bodyPost_ret (v:=.agg #[.int .i64 pc,.slice (some ⟨G,0,none⟩) l.length l.length,.slice (some ⟨G',0,none⟩) m.length m.length,.int .i64 st]) (by simp [results,Tryz.results65,go_sem,yb0,yb1,yb2,yb3]) rfl ?_
 rw [hZ]
 exact ⟨G,G',rfl,P1,P2,kz,by omega,by omega,by omega,by omega⟩
theorem mkK (n:Nat) (hn:n≤1048576) (w:World):(Instr.makeSlice 32 (.int .i64 (n:Int)) (.int .i64 (n:Int))).run Tryz.prog w=.ok (.slice (some ⟨w.heap.size,0,none⟩) n n) (w.alloc (.cells (madeCells #[.int .i64 0,.slice none 0 0,.slice none 0 0,.int .i64 0] (n * 4)) 53)):=by
 have h:=run_make (P:=Tryz.prog) w 32 53 _ (.agg #[.int .i64 0,.slice none 0 0,.slice none 0 0,.int .i64 0]) Tryz.underlying32 rfl rfl .i64 .i64 n n (by omega) (Int.le_refl _) (by show (64:Int) * _≤_;omega) (by omega)
 have e:(Value.agg #[.int .i64 0,.slice none 0 0,.slice none 0 0,.int .i64 0]).cells=#[.int .i64 0,.slice none 0 0,.slice none 0 0,.int .i64 0]:=rfl
 have e':∀ t,Tryz.prog.info? 53=some t→t.size=4:=by intro t h;cases h;rfl
 rw [e,e' _ rfl] at h
 simpa using h
def setK (w:World) (g o:Nat) (a b c d:Value):World:=(((w.setCell ⟨g,o,none⟩ a).setCell ⟨g,o+1,none⟩ b).setCell ⟨g,o+2,none⟩ c).setCell ⟨g,o+3,none⟩ d
theorem setK_below {B g o:Nat} {w w':World} {a b c d:Value} (h:Below B w w') (hg:B≤g):Below B w (setK w' g o a b c d):=(((h.setCell (p:=⟨g,o,none⟩) hg _).setCell (p:=⟨g,o+1,none⟩) hg _).setCell (p:=⟨g,o+2,none⟩) hg _).setCell (p:=⟨g,o+3,none⟩) hg _
theorem setK_size {g o:Nat} {w:World} {a b c d:Value}:(setK w g o a b c d).heap.size=w.heap.size:=by simp [setK]
theorem setK_block {g o k:Nat} {w:World} {a b c d:Value} (h:k≠g):(setK w g o a b c d).heap[k]? =w.heap[k]? :=by
 unfold setK
 rw [Below.heap_setCell _ _ _ k h,Below.heap_setCell _ _ _ k h,Below.heap_setCell _ _ _ k h,Below.heap_setCell _ _ _ k h]
theorem setK_frozen {g o:Nat} {w:World} {a b c d:Value} {p:Addr}:(setK w g o a b c d).frozen? p=w.frozen? p:=by simp [setK]
theorem setK_off {g o j:Nat} {w:World} {a b c d:Value} (h:j < o∨o+4≤j):(setK w g o a b c d).cell? ⟨g,j,none⟩=w.cell? ⟨g,j,none⟩:=by
 unfold setK
 rw [setC_off (by omega),setC_off (by omega),setC_off (by omega),setC_off (by omega)]
theorem setK_some {g o j:Nat} {w:World} {a b c d:Value} (h:(w.cell? ⟨g,j,none⟩).isSome=true):((setK w g o a b c d).cell? ⟨g,j,none⟩).isSome=true:=setC_some (setC_some (setC_some (setC_some h)))
theorem setK_at {g o:Nat} {w:World} {a b c d:Value} (h:∀ j,j < 4→(w.cell? ⟨g,o+j,none⟩).isSome=true):(setK w g o a b c d).cell? ⟨g,o,none⟩=some a∧(setK w g o a b c d).cell? ⟨g,o+1,none⟩=some b∧(setK w g o a b c d).cell? ⟨g,o+2,none⟩=some c∧(setK w g o a b c d).cell? ⟨g,o+3,none⟩=some d:=by
 unfold setK
 refine ⟨?_,?_,?_,?_⟩
 ·rw [setC_off (by omega),setC_off (by omega),setC_off (by omega),setC_at (by have:=h 0 (by omega);simpa using this)]
 ·rw [setC_off (by omega),setC_off (by omega),setC_at (setC_some (h 1 (by omega)))]
 ·rw [setC_off (by omega),setC_at (setC_some (setC_some (h 2 (by omega))))]
 ·rw [setC_at (setC_some (setC_some (setC_some (h 3 (by omega)))))]
set_option maxHeartbeats 1000000 in
theorem toCoreS_own (s : Option Addr) (c lo hi : Nat) (m : List KD) (w : World) (h : KsR w lo hi s m) (hB : hi ≤ w.heap.size) (hl : m.length + szK m ≤ 1048576) :
  Calls Tryz.prog 27 #[.slice s m.length c] w fun e w'=>∃ R,e=.returned (.slice (some ⟨w.heap.size,0,none⟩) m.length m.length)∧GO w' w.heap.size w'.heap.size (some ⟨w.heap.size,0,none⟩) TK R (m.map coreV)∧Below w.heap.size w w'∧w.heap.size < w'.heap.size:=by
 have hmk:=mkK m.length (by omega)
 have HC:Hid (KsR w lo hi s m):=h
 have HLS:Hid (∀ (i:Nat) (t:KD),m[i]? =some t→t.regs.length+t.vw.length≤1048576):=fun i t ht=>by have:=szK_at m i t ht;omega
 clear h
 go_enter Tryz.func27,Tryz.ntmps27
 go_wp2
 clear hmk
 go_loopw [4] (fun i wr=>∃ k:Nat,k≤m.length∧i=.int .i64 k∧Below w.heap.size w wr∧w.heap.size < wr.heap.size∧(∀ j,j < m.length * 4→(wr.cell? ⟨w.heap.size,j,none⟩).isSome=true)∧(∀ j,wr.frozen? ⟨w.heap.size,j,none⟩=false)∧∃ R,GO wr w.heap.size wr.heap.size (some ⟨w.heap.size,0,none⟩) TK R ((m.take k).map coreV)) (fun i _=>m.length - (intOf i).toNat)
 case atStart=>
  exact ⟨0,Nat.zero_le _,rfl,(Below.refl _ _).alloc (Nat.le_refl _) _,by simp,fun j hj=>new_cell (by rw [size_madeCells];omega),fun j=>new_frozen,[],GO.nil _ _ _ _ _⟩
 case round=>
  obtain ⟨k,hk,rfl,hb,hsz,hso,hfz,R,hro⟩:=hrel
  have HB:Hid (Below w.heap.size w wr):=hb
  have HSO:Hid (∀ j,j < m.length * 4→(wr.cell? ⟨w.heap.size,j,none⟩).isSome=true):=hso
  have HFZ:Hid (∀ j,wr.frozen? ⟨w.heap.size,j,none⟩=false):=hfz
  have HRO:Hid (GO wr w.heap.size wr.heap.size (some ⟨w.heap.size,0,none⟩) TK R ((m.take k).map coreV)):=hro
  clear hb hso hfz hro
  by_cases hlt:k < m.length
  ·obtain ⟨t,ht⟩:∃ t,m[k]? =some t:=⟨_,List.getElem?_eq_getElem hlt⟩
   obtain ⟨g,off,s1,c1,s2,c2,hs,hg1,hg,f0,f1,f2,f3,hin,hin'⟩:=(HC.out.keep (Keep.of_below HB.out hB)).at ht
   subst hs
   have hlen:=HLS.out k t ht
   have HT:Hid ((m.take (k+1)).map coreV=(m.take k).map coreV++[coreV t]):=by show (m.take (k+1)).map coreV=(m.take k).map coreV++[coreV t];rw [List.take_add_one,ht];simp
   have TL:Hid (((m.take k).map coreV).length=k):=by show ((m.take k).map coreV).length=k;simp;omega
   clear ht
   obtain ⟨pc,rg,vw,st⟩:=t
   simp only at f0 f1 f2 f3 hin hin' hlen
   have HIN:Hid (IntsR wr lo hi s1 rg):=hin
   have HIN':Hid (IntsR wr lo hi s2 vw):=hin'
   clear hin hin'
   have b0:(0:Int)≤(k:Int):=by omega
   have b1:(k:Int) < (m.length:Int):=by omega
   go_wp2_with fail
   refine (toCore_own pc st s1 s2 c1 c2 lo hi rg vw wr HIN.out HIN'.out (by omega) (by omega) (by omega)).mono ?_
   rintro e w1 ⟨G,G',rfl,ho1,ho2,hb1,hz1,hg3,hg4,hg5⟩
   have HB1:Hid (Below wr.heap.size wr w1):=hb1
   have HO1:Hid (VO w1 wr.heap.size w1.heap.size ⟨some ⟨G,0,none⟩,rg.length,rg.length⟩ rg):=ownN_vo ho1 rfl
   have HO2:Hid (VO w1 wr.heap.size w1.heap.size ⟨some ⟨G',0,none⟩,vw.length,vw.length⟩ vw):=ownN_vo ho2 rfl
   have HSO1:Hid (∀ j,j < m.length * 4→(w1.cell? ⟨w.heap.size,j,none⟩).isSome=true):=fun j hj=>by rw [hb1.cell (p:=⟨w.heap.size,j,none⟩) hsz];exact HSO.out j hj
   have hfz:∀ j,w1.frozen? ⟨w.heap.size,j,none⟩=false:=fun j=>by rw [hb1.frozen (p:=⟨w.heap.size,j,none⟩) hsz];exact HFZ.out j
   obtain ⟨u0,g0⟩:=Option.isSome_iff_exists.1 (HSO1.out (k * 4) (by omega))
   obtain ⟨u1,g1⟩:=Option.isSome_iff_exists.1 (HSO1.out (k * 4+1) (by omega))
   obtain ⟨u2,g2⟩:=Option.isSome_iff_exists.1 (HSO1.out (k * 4+2) (by omega))
   obtain ⟨u3,g3⟩:=Option.isSome_iff_exists.1 (HSO1.out (k * 4+3) (by omega))
   have HZ1:Hid (wr.heap.size < w1.heap.size∧wr.heap.size≤G∧G < G'∧G' < w1.heap.size):=⟨hz1,hg3,hg4,hg5⟩
   clear hb1 ho1 ho2 f0 f1 f2 f3 hz1 hg3 hg4 hg5
   go_wp2
   go_roundw
   case rel=>
    have hs1:=HB1.out.size
    have tl:=TL.out
    obtain ⟨hz,hg3,hg4,hg5⟩:=HZ1.out
    show ∃ k':Nat,_∧_∧Below w.heap.size w (setK w1 w.heap.size (k * 4) (.int .i64 pc) (.slice (some ⟨G,0,none⟩) rg.length rg.length) (.slice (some ⟨G',0,none⟩) vw.length vw.length) (.int .i64 st))∧_ < (setK w1 w.heap.size (k * 4) (.int .i64 pc) (.slice (some ⟨G,0,none⟩) rg.length rg.length) (.slice (some ⟨G',0,none⟩) vw.length vw.length) (.int .i64 st)).heap.size∧(∀ j,_→((setK w1 w.heap.size (k * 4) (.int .i64 pc) (.slice (some ⟨G,0,none⟩) rg.length rg.length) (.slice (some ⟨G',0,none⟩) vw.length vw.length) (.int .i64 st)).cell? _).isSome=true)∧(∀ j,(setK w1 w.heap.size (k * 4) (.int .i64 pc) (.slice (some ⟨G,0,none⟩) rg.length rg.length) (.slice (some ⟨G',0,none⟩) vw.length vw.length) (.int .i64 st)).frozen? _=false)∧∃ R',GO (setK w1 w.heap.size (k * 4) (.int .i64 pc) (.slice (some ⟨G,0,none⟩) rg.length rg.length) (.slice (some ⟨G',0,none⟩) vw.length vw.length) (.int .i64 st)) _ (setK w1 w.heap.size (k * 4) (.int .i64 pc) (.slice (some ⟨G,0,none⟩) rg.length rg.length) (.slice (some ⟨G',0,none⟩) vw.length vw.length) (.int .i64 st)).heap.size _ _ _ _
    obtain ⟨W2,hW2⟩:∃ W2,setK w1 w.heap.size (k * 4) (.int .i64 pc) (.slice (some ⟨G,0,none⟩) rg.length rg.length) (.slice (some ⟨G',0,none⟩) vw.length vw.length) (.int .i64 st)=W2:=⟨_,rfl⟩
    have kb:Below w.heap.size w W2:=by rw [← hW2];exact setK_below (HB.out.trans (HB1.out.mono (by omega))) (Nat.le_refl _)
    have e9:W2.heap.size=w1.heap.size:=by rw [← hW2,setK_size]
    have hso2:∀ j,j < m.length * 4→(W2.cell? ⟨w.heap.size,j,none⟩).isSome=true:=fun j hj=>by rw [← hW2];exact setK_some (HSO1.out j hj)
    have hfr:∀ p,W2.frozen? p=w1.frozen? p:=fun p=>by rw [← hW2,setK_frozen]
    have far:∀ b,b≠w.heap.size→W2.heap[b]? =w1.heap[b]? :=fun b hb=>by rw [← hW2];exact setK_block hb
    have off:∀ j,j < k * 4→W2.cell? ⟨w.heap.size,j,none⟩=w1.cell? ⟨w.heap.size,j,none⟩:=fun j hj=>by rw [← hW2];exact setK_off (by omega)
    obtain ⟨at0,at1,at2,at3⟩:W2.cell? ⟨w.heap.size,k * 4,none⟩=some (.int .i64 pc)∧W2.cell? ⟨w.heap.size,k * 4+1,none⟩=some (.slice (some ⟨G,0,none⟩) rg.length rg.length)∧W2.cell? ⟨w.heap.size,k * 4+2,none⟩=some (.slice (some ⟨G',0,none⟩) vw.length vw.length)∧W2.cell? ⟨w.heap.size,k * 4+3,none⟩=some (.int .i64 st):=by rw [← hW2];exact setK_at (fun j hj=>HSO1.out _ (by omega))
    rw [hW2]
    clear hW2
    have blk1:∀ a∈vAs (⟨some ⟨G,0,none⟩,rg.length,rg.length⟩:VS),a.block=G:=fun a ha=>by
     obtain ⟨i,-,rfl⟩:=mem_vAs.1 ha
     rfl
    have blk2:∀ a∈vAs (⟨some ⟨G',0,none⟩,vw.length,vw.length⟩:VS),a.block=G':=fun a ha=>by
     obtain ⟨i,-,rfl⟩:=mem_vAs.1 ha
     rfl
    refine ⟨k+1,by omega,by go_num,kb,by omega,hso2,fun j=>by rw [hfr];exact hfz j,R++[[.i,.r ⟨some ⟨G,0,none⟩,rg.length,rg.length⟩ 1,.r ⟨some ⟨G',0,none⟩,vw.length,vw.length⟩ 1,.i]],?_⟩
    rw [HT.out,e9]
    have hm1:=(HRO.out.keep (Keep.of_below HB1.out (Nat.le_refl _))).mono (Nat.le_refl _) hs1
    have ra:recAs (some ⟨w.heap.size,0,none⟩) [.i,.r ⟨some ⟨G,0,none⟩,rg.length,rg.length⟩ 1,.r ⟨some ⟨G',0,none⟩,vw.length,vw.length⟩ 1,.i] (((m.take k).map coreV).length * TK.length)=⟨w.heap.size,k * 4,none⟩::(vAs (⟨some ⟨G,0,none⟩,rg.length,rg.length⟩:VS)++(vAs (⟨some ⟨G',0,none⟩,vw.length,vw.length⟩:VS)++[⟨w.heap.size,k * 4+3,none⟩])):=by
     rw [tl]
     simp [recAs,fAs,wide_one,adr,TK]
    refine GO.push (w:=w1) _ _ hm1 ⟨_,_,rfl⟩ rfl rfl (fun k' r v j f y hr hv hf hy hfo=>?_) (fun j f v hf hv=>?_) (fun x e hx a ha g o hg=>?_) ?_ (fun a ha ha'=>?_)
    ·have hk':=(List.getElem?_eq_some_iff.1 hv).1
     rw [tl] at hk'
     have hj:j < 4:=by
      have h1:=(List.getElem?_eq_some_iff.1 hf).1
      have h2:=congrArg List.length (hm1.t k' r hr)
      simp [TK] at h2
      omega
     refine hfo.far ?_ (hfr _) (fun x' e' hx' b hb=>far _ ?_)
     ·have:=off (k' * 4+j) (by omega)
      simpa [adr,TK] using this
     ·exact hm1.o _ (List.mem_of_getElem? hr) x' e' (by rw [← hx'];exact List.mem_of_getElem? hf) b hb _ _ rfl
    ·rw [tl]
     match j,hf,hv with
     | 0,hf,hv=>
      simp at hf
      simp [coreV] at hv
      subst hf hv
      exact ⟨by simpa [adr,TK] using at0,by rw [hfr];simpa [adr] using hfz _,Nat.le_refl _,by show w.heap.size < _;omega⟩
     | 1,hf,hv=>
      simp at hf
      simp [coreV] at hv
      subst hf hv
      refine ⟨by simpa [adr,TK] using at1,⟨Nat.le_refl _,by show w.heap.size < _;omega⟩,?_⟩
      rw [wide_one]
      exact (HO1.out.mono (lo':=w.heap.size) (by omega) (Nat.le_refl _)).far2 (fun a ha=>far _ (by rw [blk1 a ha];omega))
     | 2,hf,hv=>
      simp at hf
      simp [coreV] at hv
      subst hf hv
      refine ⟨by simpa [adr,TK] using at2,⟨Nat.le_refl _,by show w.heap.size < _;omega⟩,?_⟩
      rw [wide_one]
      exact (HO2.out.mono (lo':=w.heap.size) (by omega) (Nat.le_refl _)).far2 (fun a ha=>far _ (by rw [blk2 a ha];omega))
     | 3,hf,hv=>
      simp at hf
      simp [coreV] at hv
      subst hf hv
      exact ⟨by simpa [adr,TK] using at3,by rw [hfr];simpa [adr] using hfz _,Nat.le_refl _,by show w.heap.size < _;omega⟩
    ·injection hg with hg
     injection hg with hg
     simp at hx
     rcases hx with ⟨rfl,rfl⟩ | ⟨rfl,rfl⟩
     ·rw [wide_one] at ha
      rw [blk1 a ha]
      omega
     ·rw [wide_one] at ha
      rw [blk2 a ha]
      omega
    ·rw [ra]
     refine List.nodup_cons.2 ⟨fun hm=>?_,List.nodup_append.2 ⟨vAs_nodup rfl,List.nodup_append.2 ⟨vAs_nodup rfl,by simp,fun a ha b hb e=>?_⟩,fun a ha b hb e=>?_⟩⟩
     ·rcases List.mem_append.1 hm with hm | hm
      ·have:=blk1 _ hm
       simp at this<;>omega
      ·rcases List.mem_append.1 hm with hm | hm
       ·have:=blk2 _ hm
        simp at this<;>omega
       ·simp at hm
     ·simp at hb
      subst hb e
      have:=blk2 _ ha
      simp at this<;>omega
     ·subst e
      have h1:=blk1 _ ha
      rcases List.mem_append.1 hb with hb | hb
      ·have h2:=blk2 _ hb
       omega
      ·simp at hb
       subst hb
       simp at h1<;>omega
    ·rw [ra] at ha'
     have hg:=HRO.out.blk ha
     have own:a.block=w.heap.size→∃ i j,i < k∧j < 4∧a=⟨w.heap.size,i * 4+j,none⟩:=fun hbk=>by
      obtain ⟨i,rec,j,f,h1,h2,h3⟩:=mem_gAs.1 ha
      rw [Nat.zero_add] at h3
      have hi:i < k:=by have h4:=(List.getElem?_eq_some_iff.1 h1).1;have h5:=HRO.out.n;omega
      have hj:j < 4:=by
       have h4:=(List.getElem?_eq_some_iff.1 h2).1
       have h5:=congrArg List.length (HRO.out.t i rec h1)
       simp [TK] at h5
       omega
      cases f with
      | i=>
       simp [fAs,adr,TK] at h3
       exact ⟨i,j,hi,hj,h3⟩
      | r x e=>
       exact absurd hbk (HRO.out.o rec (List.mem_of_getElem? h1) x e (List.mem_of_getElem? h2) a h3 _ _ rfl)
     rcases List.mem_cons.1 ha' with e | ha'
     ·obtain ⟨i,j,hi,hj,e'⟩:=own (by rw [e])
      rw [e] at e'
      simp at e'<;>omega
     ·rcases List.mem_append.1 ha' with ha' | ha'
      ·have:=blk1 _ ha'
       omega
      ·rcases List.mem_append.1 ha' with ha' | ha'
       ·have:=blk2 _ ha'
        omega
       ·simp at ha'
        obtain ⟨i,j,hi,hj,e'⟩:=own (by rw [ha'])
        rw [ha'] at e'
        simp at e'<;>omega
   case measure=>simp [intOf];omega
  ·go_wp2
   go_ret
   have:k=m.length:=by omega
   subst this
   have h1:=HRO.out
   rw [List.take_length] at h1
   exact ⟨R,rfl,h1,HB.out,hsz⟩
end
section
open Go.RowKit
structure MP where
 s1:Option Addr
 c1:Nat
 RC:List (List FS)
 s2:Option Addr
 c2:Nat
 RK:List (List FS)
 s3:Option Addr
 c3:Nat
 S:List RS
 s4:Option Addr
 c4:Nat
def MP.x4 (p:MP) (d:MD):VS:=(⟨p.s4,d.tr.length,p.c4⟩:VS).wide 2
def MP.as (p:MP) (d:MD):List Addr:=gAs p.s1 TC.length p.RC 0++(gAs p.s2 TK.length p.RK 0++(mAs p.S++vAs (p.x4 d)))
structure MaO (w:World) (lo hi:Nat) (p:MP) (d:MD):Prop where
 c:GO w lo hi p.s1 TC p.RC (d.codes.map codeV)
 k:GO w lo hi p.s2 TK p.RK (d.cores.map coreV)
 m:MO w lo hi p.s3 p.S d.mem
 t:VO w lo hi (p.x4 d) (fl2 d.tr)
 d:(p.as d).Nodup
theorem MaO.keep {w w':World} {lo hi:Nat} {p:MP} {d:MD} (h:MaO w lo hi p d) (hb:Keep lo hi w w'):MaO w' lo hi p d:=⟨h.c.keep hb,h.k.keep hb,h.m.keep hb,h.t.keep hb,h.d⟩
theorem MaO.mono {w:World} {lo hi lo' hi':Nat} {p:MP} {d:MD} (h:MaO w lo hi p d) (a:lo'≤lo) (b:hi≤hi'):MaO w lo' hi' p d:=⟨h.c.mono a b,h.k.mono a b,h.m.mono a b,h.t.mono a b,h.d⟩
theorem MaO.ma {w:World} {lo hi:Nat} {p:MP} {d:MD} (h:MaO w lo hi p d):MaR w lo hi p.s1 p.s2 p.s3 p.s4 d:=⟨h.c.csR,h.k.ksR,h.m.mem,h.t.ntsR⟩
theorem MaO.of {w:World} {lo hi h1 h2 h3:Nat} {p:MP} {d:MD} (hc:GO w lo h1 p.s1 TC p.RC (d.codes.map codeV)) (hk:GO w h1 h2 p.s2 TK p.RK (d.cores.map coreV)) (hm:MO w h2 h3 p.s3 p.S d.mem) (ht:VO w h3 hi (p.x4 d) (fl2 d.tr)) (l1:lo≤h1) (l2:h1≤h2) (l3:h2≤h3) (l4:h3≤hi) (nt:(vAs (p.x4 d)).Nodup):MaO w lo hi p d:=by
 refine ⟨hc.mono (Nat.le_refl _) (by omega),hk.mono (by omega) (by omega),hm.mono (by omega) (by omega),ht.mono (by omega) (Nat.le_refl _),?_⟩
 unfold MP.as
 refine List.nodup_append.2 ⟨hc.d,List.nodup_append.2 ⟨hk.d,List.nodup_append.2 ⟨hm.d,nt,fun a ha b hb e=>?_⟩,fun a ha b hb e=>?_⟩,fun a ha b hb e=>?_⟩
 ·subst e
  have:=(hm.blk ha).2
  have:=(ht.blk hb).1
  omega
 ·subst e
  have:=(hk.blk ha).2
  rcases List.mem_append.1 hb with hb | hb
  ·have:=(hm.blk hb).1
   omega
  ·have:=(ht.blk hb).1
   omega
 ·subst e
  have:=(hc.blk ha).2
  rcases List.mem_append.1 hb with hb | hb
  ·have:=(hk.blk hb).1
   omega
  ·rcases List.mem_append.1 hb with hb | hb
   ·have:=(hm.blk hb).1
    omega
   ·have:=(ht.blk hb).1
    omega
set_option maxHeartbeats 2000000 in
theorem toMachine_own (s1 s2 s3 s4 : Option Addr) (c1 c2 c3 c4 lo hi : Nat) (d : MD) (w : World) (h : MaR w lo hi s1 s2 s3 s4 d) (hB : hi ≤ w.heap.size) (hf : MaSz d ≤ 1048576) :
  Calls Tryz.prog 7 #[.agg #[.slice s1 d.codes.length c1,.slice s2 d.cores.length c2,.slice s3 d.mem.length c3,.slice s4 d.tr.length c4]] w fun e w'=>∃ p:MP,e=.returned (.agg #[.slice p.s1 d.codes.length p.c1,.slice p.s2 d.cores.length p.c2,.slice p.s3 d.mem.length p.c3,.slice p.s4 d.tr.length p.c4])∧MaO w' w.heap.size w'.heap.size p d∧Below w.heap.size w w'∧w.heap.size < w'.heap.size:=by
 have H:Hid (MaR w lo hi s1 s2 s3 s4 d):=h
 have F1:d.codes.length+szC d.codes≤1048576:=by unfold MaSz at hf;omega
 have F2:d.cores.length+szK d.cores≤1048576:=by unfold MaSz at hf;omega
 have F3:MFits d.mem:=by unfold MaSz at hf;unfold MFits;omega
 have F4:d.tr.length≤1048576:=by unfold MaSz at hf;omega
 clear h hf
 go_enter Tryz.func7,Tryz.ntmps7
 go_wp2_with fail
 obtain ⟨V0,hW⟩:∃ W,((w.alloc (.cells #[.slice s1 d.codes.length c1,.slice s2 d.cores.length c2,.slice s3 d.mem.length c3,.slice s4 d.tr.length c4] 29)).alloc (.cells #[.slice none 0 0,.slice none 0 0,.slice none 0 0,.slice none 0 0] 38)).alloc (.cells #[.slice none 0 0,.slice none 0 0,.slice none 0 0,.slice none 0 0] 38)=W:=⟨_,rfl⟩
 obtain ⟨kv0,xa0,xb0,xc0,zw⟩:=three4 hW
 rw [hW]
 clear hW
 have zv0:w.heap.size+3≤V0.heap.size:=by omega
 clear zw
 refine (toStepSS_own s1 c1 lo hi d.codes V0 (H.out.keep (Keep.of_below kv0 hB)).1 (by omega) F1).mono ?_
 rintro e w1 ⟨RC,rfl,ho1,hb1,hz1⟩
 obtain ⟨G1,hG1,hAG1,hBG1⟩:∃ G,V0.heap.size=G∧V0.heap.size≤G∧G≤V0.heap.size:=⟨_,rfl,Nat.le_refl _,Nat.le_refl _⟩
 obtain ⟨H1,hH1,hAH1,hBH1⟩:∃ G,w1.heap.size=G∧w1.heap.size≤G∧G≤w1.heap.size:=⟨_,rfl,Nat.le_refl _,Nat.le_refl _⟩
 rw [hG1] at ho1 hz1 zv0 hb1
 rw [hH1] at ho1 hz1
 rw [hG1]
 have XA:Hid (X4 w1 w.heap.size (.slice s1 d.codes.length c1) (.slice s2 d.cores.length c2) (.slice s3 d.mem.length c3) (.slice s4 d.tr.length c4)):=xa0.keep hb1 (by omega)
 have XB:Hid (X4 w1 (w.heap.size+1) (.slice none 0 0) (.slice none 0 0) (.slice none 0 0) (.slice none 0 0)):=xb0.keep hb1 (by omega)
 have XC:Hid (X4 w1 (w.heap.size+1+1) (.slice none 0 0) (.slice none 0 0) (.slice none 0 0) (.slice none 0 0)):=xc0.keep hb1 (by omega)
 have o1:GO w1 G1 H1 (some ⟨G1,0,none⟩) TC RC (d.codes.map codeV):=ho1
 have kw:Below w.heap.size w w1:=kv0.trans (hb1.mono (by omega))
 clear hb1 xa0 xb0 xc0 kv0 ho1 hH1 hG1
 obtain ⟨za,ya0,ya1,ya2,ya3⟩:=XA.out.x
 obtain ⟨zb,yb0,yb1,yb2,yb3⟩:=XB.out.x
 obtain ⟨zc,yc0,yc1,yc2,yc3⟩:=XC.out.x
 have fb:=XB.out.fz
 have fc:=XC.out.fz
 have HO:Hid (GO w1 G1 H1 (some ⟨G1,0,none⟩) TC RC (d.codes.map codeV)∧True):=⟨o1,trivial⟩
 clear o1
 have HK:Hid (Below w.heap.size w w1):=kw
 clear kw
 go_wp2_with fail
 obtain ⟨V1,hV⟩:∃ V,w1.setCell ⟨w.heap.size+1+1,0,none⟩ (.slice (some ⟨G1,0,none⟩) d.codes.length d.codes.length)=V:=⟨_,rfl⟩
 have kv1:Below w.heap.size w V1:=by rw [← hV];exact HK.out.setCell (p:=⟨w.heap.size+1+1,0,none⟩) (by simp;omega) _
 have xa1:X4 V1 w.heap.size (.slice s1 d.codes.length c1) (.slice s2 d.cores.length c2) (.slice s3 d.mem.length c3) (.slice s4 d.tr.length c4):=by rw [← hV];exact XA.out.off (by omega)
 have xb1:X4 V1 (w.heap.size+1) (.slice none 0 0) (.slice none 0 0) (.slice none 0 0) (.slice none 0 0):=by rw [← hV];exact XB.out.off (by omega)
 have xc1:X4 V1 (w.heap.size+1+1) (.slice (some ⟨G1,0,none⟩) d.codes.length d.codes.length) (.slice none 0 0) (.slice none 0 0) (.slice none 0 0):=by rw [← hV];exact XC.out.set0
 have far:∀ b,b≠w.heap.size+1+1→V1.heap[b]? =w1.heap[b]? :=fun b hb=>by rw [← hV];exact Below.heap_setCell _ _ _ b hb
 have zv1:H1≤V1.heap.size:=by rw [← hV];simp;omega
 obtain ⟨o1,-⟩:=HO.out
 have o1:=o1.keep (w':=V1) (fun b h1 h2=>far b (by omega))
 rw [hV]
 clear hV XA XB XC ya0 ya1 ya2 ya3 yb0 yb1 yb2 yb3 yc0 yc1 yc2 yc3 fb fc za zb zc HO HK far
 refine (toCoreS_own s2 c2 lo hi d.cores V1 (H.out.keep (Keep.of_below kv1 hB)).2.1 (by omega) F2).mono ?_
 rintro e w2 ⟨RK,rfl,ho2,hb2,hz2⟩
 obtain ⟨G2,hG2,hAG2,hBG2⟩:∃ G,V1.heap.size=G∧V1.heap.size≤G∧G≤V1.heap.size:=⟨_,rfl,Nat.le_refl _,Nat.le_refl _⟩
 obtain ⟨H2,hH2,hAH2,hBH2⟩:∃ G,w2.heap.size=G∧w2.heap.size≤G∧G≤w2.heap.size:=⟨_,rfl,Nat.le_refl _,Nat.le_refl _⟩
 rw [hG2] at ho2 hz2 zv1 hb2
 rw [hH2] at ho2 hz2
 obtain ⟨L2,hL2⟩:∃ L,L=G2:=⟨_,rfl⟩
 rw [hG2]
 rw [← hL2] at hz2 zv1 hb2
 have XA:Hid (X4 w2 w.heap.size (.slice s1 d.codes.length c1) (.slice s2 d.cores.length c2) (.slice s3 d.mem.length c3) (.slice s4 d.tr.length c4)):=xa1.keep hb2 (by omega)
 have XB:Hid (X4 w2 (w.heap.size+1) (.slice none 0 0) (.slice none 0 0) (.slice none 0 0) (.slice none 0 0)):=xb1.keep hb2 (by omega)
 have XC:Hid (X4 w2 (w.heap.size+1+1) (.slice (some ⟨G1,0,none⟩) d.codes.length d.codes.length) (.slice none 0 0) (.slice none 0 0) (.slice none 0 0)):=xc1.keep hb2 (by omega)
 have o1:=o1.keep (Keep.of_below hb2 (by omega))
 have o2:GO w2 L2 H2 (some ⟨G2,0,none⟩) TK RK (d.cores.map coreV):=by
  have q:=ho2
  rw [← hL2] at q ⊢
  exact q
 have kw:Below w.heap.size w w2:=kv1.trans (hb2.mono (by omega))
 clear hb2 xa1 xb1 xc1 kv1 ho2 hH2 hG2
 obtain ⟨za,ya0,ya1,ya2,ya3⟩:=XA.out.x
 obtain ⟨zb,yb0,yb1,yb2,yb3⟩:=XB.out.x
 obtain ⟨zc,yc0,yc1,yc2,yc3⟩:=XC.out.x
 have fb:=XB.out.fz
 have fc:=XC.out.fz
 have HO:Hid (GO w2 G1 H1 (some ⟨G1,0,none⟩) TC RC (d.codes.map codeV)∧GO w2 L2 H2 (some ⟨G2,0,none⟩) TK RK (d.cores.map coreV)∧True):=⟨o1,o2,trivial⟩
 clear o1 o2
 have HK:Hid (Below w.heap.size w w2):=kw
 clear kw
 go_wp2_with fail
 obtain ⟨V2,hV⟩:∃ V,w2.setCell ⟨w.heap.size+1+1,1,none⟩ (.slice (some ⟨G2,0,none⟩) d.cores.length d.cores.length)=V:=⟨_,rfl⟩
 have kv2:Below w.heap.size w V2:=by rw [← hV];exact HK.out.setCell (p:=⟨w.heap.size+1+1,1,none⟩) (by simp;omega) _
 have xa2:X4 V2 w.heap.size (.slice s1 d.codes.length c1) (.slice s2 d.cores.length c2) (.slice s3 d.mem.length c3) (.slice s4 d.tr.length c4):=by rw [← hV];exact XA.out.off (by omega)
 have xb2:X4 V2 (w.heap.size+1) (.slice none 0 0) (.slice none 0 0) (.slice none 0 0) (.slice none 0 0):=by rw [← hV];exact XB.out.off (by omega)
 have xc2:X4 V2 (w.heap.size+1+1) (.slice (some ⟨G1,0,none⟩) d.codes.length d.codes.length) (.slice (some ⟨G2,0,none⟩) d.cores.length d.cores.length) (.slice none 0 0) (.slice none 0 0):=by rw [← hV];exact XC.out.set1
 have far:∀ b,b≠w.heap.size+1+1→V2.heap[b]? =w2.heap[b]? :=fun b hb=>by rw [← hV];exact Below.heap_setCell _ _ _ b hb
 have zv2:H2≤V2.heap.size:=by rw [← hV];simp;omega
 obtain ⟨o1,o2,-⟩:=HO.out
 have o1:=o1.keep (w':=V2) (fun b h1 h2=>far b (by omega))
 have o2:=o2.keep (w':=V2) (fun b h1 h2=>far b (by omega))
 rw [hV]
 clear hV XA XB XC ya0 ya1 ya2 ya3 yb0 yb1 yb2 yb3 yc0 yc1 yc2 yc3 fb fc za zb zc HO HK far
 refine (toMemory_own s3 c3 lo hi d.mem V2 (H.out.keep (Keep.of_below kv2 hB)).2.2.1 (by omega) F3).mono ?_
 rintro e w3 ⟨G3,S,rfl,ho3,hb3,hz3⟩
 obtain ⟨L3,hL3,hAL3,hBL3⟩:∃ G,V2.heap.size=G∧V2.heap.size≤G∧G≤V2.heap.size:=⟨_,rfl,Nat.le_refl _,Nat.le_refl _⟩
 obtain ⟨H3,hH3,hAH3,hBH3⟩:∃ G,w3.heap.size=G∧w3.heap.size≤G∧G≤w3.heap.size:=⟨_,rfl,Nat.le_refl _,Nat.le_refl _⟩
 rw [hL3] at ho3 hz3 zv2 hb3
 rw [hH3] at ho3 hz3
 have XA:Hid (X4 w3 w.heap.size (.slice s1 d.codes.length c1) (.slice s2 d.cores.length c2) (.slice s3 d.mem.length c3) (.slice s4 d.tr.length c4)):=xa2.keep hb3 (by omega)
 have XB:Hid (X4 w3 (w.heap.size+1) (.slice none 0 0) (.slice none 0 0) (.slice none 0 0) (.slice none 0 0)):=xb2.keep hb3 (by omega)
 have XC:Hid (X4 w3 (w.heap.size+1+1) (.slice (some ⟨G1,0,none⟩) d.codes.length d.codes.length) (.slice (some ⟨G2,0,none⟩) d.cores.length d.cores.length) (.slice none 0 0) (.slice none 0 0)):=xc2.keep hb3 (by omega)
 have o1:=o1.keep (Keep.of_below hb3 (by omega))
 have o2:=o2.keep (Keep.of_below hb3 (by omega))
 have o3:MO w3 L3 H3 (some ⟨G3,0,none⟩) S d.mem:=ho3
 have kw:Below w.heap.size w w3:=kv2.trans (hb3.mono (by omega))
 clear hb3 xa2 xb2 xc2 kv2 ho3 hH3 hL3
 obtain ⟨za,ya0,ya1,ya2,ya3⟩:=XA.out.x
 obtain ⟨zb,yb0,yb1,yb2,yb3⟩:=XB.out.x
 obtain ⟨zc,yc0,yc1,yc2,yc3⟩:=XC.out.x
 have fb:=XB.out.fz
 have fc:=XC.out.fz
 have HO:Hid (GO w3 G1 H1 (some ⟨G1,0,none⟩) TC RC (d.codes.map codeV)∧GO w3 L2 H2 (some ⟨G2,0,none⟩) TK RK (d.cores.map coreV)∧MO w3 L3 H3 (some ⟨G3,0,none⟩) S d.mem∧True):=⟨o1,o2,o3,trivial⟩
 clear o1 o2 o3
 have HK:Hid (Below w.heap.size w w3):=kw
 clear kw
 go_wp2_with fail
 obtain ⟨V3,hV⟩:∃ V,w3.setCell ⟨w.heap.size+1+1,2,none⟩ (.slice (some ⟨G3,0,none⟩) d.mem.length d.mem.length)=V:=⟨_,rfl⟩
 have kv3:Below w.heap.size w V3:=by rw [← hV];exact HK.out.setCell (p:=⟨w.heap.size+1+1,2,none⟩) (by simp;omega) _
 have xa3:X4 V3 w.heap.size (.slice s1 d.codes.length c1) (.slice s2 d.cores.length c2) (.slice s3 d.mem.length c3) (.slice s4 d.tr.length c4):=by rw [← hV];exact XA.out.off (by omega)
 have xb3:X4 V3 (w.heap.size+1) (.slice none 0 0) (.slice none 0 0) (.slice none 0 0) (.slice none 0 0):=by rw [← hV];exact XB.out.off (by omega)
 have xc3:X4 V3 (w.heap.size+1+1) (.slice (some ⟨G1,0,none⟩) d.codes.length d.codes.length) (.slice (some ⟨G2,0,none⟩) d.cores.length d.cores.length) (.slice (some ⟨G3,0,none⟩) d.mem.length d.mem.length) (.slice none 0 0):=by rw [← hV];exact XC.out.set2
 have far:∀ b,b≠w.heap.size+1+1→V3.heap[b]? =w3.heap[b]? :=fun b hb=>by rw [← hV];exact Below.heap_setCell _ _ _ b hb
 have zv3:H3≤V3.heap.size:=by rw [← hV];simp;omega
 obtain ⟨o1,o2,o3,-⟩:=HO.out
 have o1:=o1.keep (w':=V3) (fun b h1 h2=>far b (by omega))
 have o2:=o2.keep (w':=V3) (fun b h1 h2=>far b (by omega))
 have o3:=o3.keep (w':=V3) (fun b h1 h2=>far b (by omega))
 rw [hV]
 clear hV XA XB XC ya0 ya1 ya2 ya3 yb0 yb1 yb2 yb3 yc0 yc1 yc2 yc3 fb fc za zb zc HO HK far
 refine (toNoteS_own s4 c4 lo hi d.tr V3 (H.out.keep (Keep.of_below kv3 hB)).2.2.2 (by omega) F4).mono ?_
 rintro e w4 ⟨rfl,ho4,hb4,hz4⟩
 obtain ⟨G4,hG4,hAG4,hBG4⟩:∃ G,V3.heap.size=G∧V3.heap.size≤G∧G≤V3.heap.size:=⟨_,rfl,Nat.le_refl _,Nat.le_refl _⟩
 obtain ⟨H4,hH4,hAH4,hBH4⟩:∃ G,w4.heap.size=G∧w4.heap.size≤G∧G≤w4.heap.size:=⟨_,rfl,Nat.le_refl _,Nat.le_refl _⟩
 have ho4:=OwnD.vo ho4 rfl
 rw [hG4] at ho4 hz4 zv3 hb4
 rw [hH4] at ho4 hz4
 obtain ⟨L4,hL4⟩:∃ L,L=G4:=⟨_,rfl⟩
 rw [hG4]
 rw [← hL4] at hz4 zv3 hb4
 have XA:Hid (X4 w4 w.heap.size (.slice s1 d.codes.length c1) (.slice s2 d.cores.length c2) (.slice s3 d.mem.length c3) (.slice s4 d.tr.length c4)):=xa3.keep hb4 (by omega)
 have XB:Hid (X4 w4 (w.heap.size+1) (.slice none 0 0) (.slice none 0 0) (.slice none 0 0) (.slice none 0 0)):=xb3.keep hb4 (by omega)
 have XC:Hid (X4 w4 (w.heap.size+1+1) (.slice (some ⟨G1,0,none⟩) d.codes.length d.codes.length) (.slice (some ⟨G2,0,none⟩) d.cores.length d.cores.length) (.slice (some ⟨G3,0,none⟩) d.mem.length d.mem.length) (.slice none 0 0)):=xc3.keep hb4 (by omega)
 have o1:=o1.keep (Keep.of_below hb4 (by omega))
 have o2:=o2.keep (Keep.of_below hb4 (by omega))
 have o3:=o3.keep (Keep.of_below hb4 (by omega))
 have o4:VO w4 L4 H4 ((⟨some ⟨G4,0,none⟩,d.tr.length,d.tr.length⟩:VS).wide 2) (fl2 d.tr):=by
  have q:=ho4
  rw [← hL4] at q ⊢
  exact q
 have kw:Below w.heap.size w w4:=kv3.trans (hb4.mono (by omega))
 clear hb4 xa3 xb3 xc3 kv3 ho4 hH4 hG4
 obtain ⟨za,ya0,ya1,ya2,ya3⟩:=XA.out.x
 obtain ⟨zb,yb0,yb1,yb2,yb3⟩:=XB.out.x
 obtain ⟨zc,yc0,yc1,yc2,yc3⟩:=XC.out.x
 have fb:=XB.out.fz
 have fc:=XC.out.fz
 have HO:Hid (GO w4 G1 H1 (some ⟨G1,0,none⟩) TC RC (d.codes.map codeV)∧GO w4 L2 H2 (some ⟨G2,0,none⟩) TK RK (d.cores.map coreV)∧MO w4 L3 H3 (some ⟨G3,0,none⟩) S d.mem∧VO w4 L4 H4 ((⟨some ⟨G4,0,none⟩,d.tr.length,d.tr.length⟩:VS).wide 2) (fl2 d.tr)∧True):=⟨o1,o2,o3,o4,trivial⟩
 clear o1 o2 o3 o4
 have HK:Hid (Below w.heap.size w w4):=kw
 clear kw
 go_wp2
 obtain ⟨U,hU,fin,kz,sz⟩:∃ U,(((((w4.setCell ⟨w.heap.size+1+1,3,none⟩ (.slice (some ⟨G4,0,none⟩) d.tr.length d.tr.length)).setCell ⟨w.heap.size+1,0,none⟩ (.slice (some ⟨G1,0,none⟩) d.codes.length d.codes.length)).setCell ⟨w.heap.size+1,1,none⟩ (.slice (some ⟨G2,0,none⟩) d.cores.length d.cores.length)).setCell ⟨w.heap.size+1,2,none⟩ (.slice (some ⟨G3,0,none⟩) d.mem.length d.mem.length)).setCell ⟨w.heap.size+1,3,none⟩ (.slice (some ⟨G4,0,none⟩) d.tr.length d.tr.length))=U∧(∀ k,w.heap.size+3≤k→U.heap[k]? =w4.heap[k]?)∧Below w.heap.size w U∧U.heap.size=w4.heap.size:=by
  refine ⟨_,rfl,fun k hk=>?_,?_,?_⟩
  ·rw [Below.heap_setCell _ _ _ k (by simp;omega),Below.heap_setCell _ _ _ k (by simp;omega),Below.heap_setCell _ _ _ k (by simp;omega),Below.heap_setCell _ _ _ k (by simp;omega),Below.heap_setCell _ _ _ k (by simp;omega)]
  ·refine Below.setCell (Below.setCell (Below.setCell (Below.setCell (Below.setCell HK.out ?_ _) ?_ _) ?_ _) ?_ _) ?_ _<;>simp<;>omega
  ·simp
 obtain ⟨o1,o2,o3,o4,-⟩:=HO.out
 have kp:∀ {a b:Nat},w.heap.size+3≤a→Keep a b w4 U:=fun h k h1 h2=>fin k (by omega)
 have mo:MaO U w.heap.size U.heap.size ⟨some ⟨G1,0,none⟩,d.codes.length,RC,some ⟨G2,0,none⟩,d.cores.length,RK,some ⟨G3,0,none⟩,d.mem.length,S,some ⟨G4,0,none⟩,d.tr.length⟩ d:=
  MaO.of ((o1.keep (kp (by omega))).mono (lo':=w.heap.size) (hi':=L2) (by omega) (by omega)) ((o2.keep (kp (by omega))).mono (hi':=L3) (Nat.le_refl _) (by omega)) ((o3.keep (kp (by omega))).mono (hi':=L4) (Nat.le_refl _) (by omega)) ((o4.keep (kp (by omega))).mono (hi':=U.heap.size) (Nat.le_refl _) (by omega)) (by omega) (by omega) (by omega) (by omega) (vAs_nodup rfl)
 refine bodyPost_ret (v:=.agg #[.slice (some ⟨G1,0,none⟩) d.codes.length d.codes.length,.slice (some ⟨G2,0,none⟩) d.cores.length d.cores.length,.slice (some ⟨G3,0,none⟩) d.mem.length d.mem.length,.slice (some ⟨G4,0,none⟩) d.tr.length d.tr.length]) (by simp [results,Tryz.results7,go_sem,yb0,yb1,yb2,yb3]) rfl ?_
 rw [hU]
 exact ⟨⟨some ⟨G1,0,none⟩,d.codes.length,RC,some ⟨G2,0,none⟩,d.cores.length,RK,some ⟨G3,0,none⟩,d.mem.length,S,some ⟨G4,0,none⟩,d.tr.length⟩,rfl,mo,kz,by omega⟩
end
section
open Go.RowKit
structure Bo4 (G:Nat) (W:World) (a b c d:Value):Prop where
 c0:W.cell? ⟨G,0,none⟩=some a
 c1:W.cell? ⟨G,1,none⟩=some b
 c2:W.cell? ⟨G,2,none⟩=some c
 c3:W.cell? ⟨G,3,none⟩=some d
theorem Bo4.new (w:World) (a b c d:Value) (T:TypeId):∃ W,w.alloc (.cells #[a,b,c,d] T)=W∧Bo4 w.heap.size W a b c d∧Below w.heap.size w W∧W.heap.size=w.heap.size+1:=
 ⟨_,rfl,⟨by simp [go_sem],by simp [go_sem],by simp [go_sem],by simp [go_sem]⟩,(Below.refl _ _).alloc (Nat.le_refl _) _,by simp⟩
theorem Bo4.keep {G:Nat} {W W':World} {a b c d:Value} (h:Bo4 G W a b c d) (hk:Keep G (G+1) W W'):Bo4 G W' a b c d:=⟨(hk.cell (p:=⟨G,0,none⟩) (Nat.le_refl _) (Nat.lt_succ_self _)).trans h.c0,(hk.cell (p:=⟨G,1,none⟩) (Nat.le_refl _) (Nat.lt_succ_self _)).trans h.c1,(hk.cell (p:=⟨G,2,none⟩) (Nat.le_refl _) (Nat.lt_succ_self _)).trans h.c2,(hk.cell (p:=⟨G,3,none⟩) (Nat.le_refl _) (Nat.lt_succ_self _)).trans h.c3⟩
end
end
section
set_option linter.unusedSimpArgs false
set_option linter.unusedVariables false
set_option maxRecDepth 100000
open Go.RowKit
theorem eqStep_same (o r a b n:Int) (w:World):Calls Tryz.prog 101 #[.agg #[.int .i64 o,.int .i64 r,.int .i64 a,.int .i64 b,.int .i64 n],.agg #[.int .i64 o,.int .i64 r,.int .i64 a,.int .i64 b,.int .i64 n]] w fun e w'=>e=.returned (.bool true)∧Below w.heap.size w w':=by
 go_enter Tryz.func101,Tryz.ntmps101
 go_wp2
 go_ret
 exact ⟨rfl,((Below.refl _ _).alloc (Nat.le_refl _) _).alloc (by simp) _⟩
end
end Go.Proofs.YtlbeploopclegaaGreat
