/- Store and Swap's last step, in the program and in the specification. Conditions: what is right. The model of a step of a machine that is right, and what being right tells of the core that goes on. No condition. Rows of code and of cores that a call has made: owned whole, so that more may be put behind them. No condition. Append of steps onto an empty row, and of a row of steps onto rows of them. Conditions: fewer than 2^30 of them. Append of a core onto a row of them. Conditions: fewer than 2^30 of them. Rows of code copied by the program and by the specification. Conditions: they are counted. Machines that run: all their rows owned whole; append of notes. Conditions: fewer than 2^30 of them. -/
import Derived.Test.YtepfpbcjklaenaaGreatJG00
import Derived.Test.YtepfpbcjklaenaaGreatJG11
import Derived.Test.YtepfpbcjklaenaaGreatJG01
import Derived.Test.YtepfpbcjklaenaaGreatJG10
import Derived.Test.YtepfpbcjklaenaaGreatJG12
import Derived.Test.YtepfpbcjklaenaaGreatJG02
import Derived.Test.YtepfpbcjklaenaaGreatJG08
import Derived.Test.YtepfpbcjklaenaaGreatJG04
import Derived.Test.YtepfpbcjklaenaaGreatJG07
import Derived.Test.YtepfpbcjklaenaaGreatJG05
namespace Go.Proofs.YtepfpbcjklaenaaGreat
section
set_option linter.unusedSimpArgs false
set_option linter.unusedVariables false
set_option maxRecDepth 100000
open Go.RowKit
def toldL (l:List Int) (k n:Nat) (b:Bool):List Int:=if b=true then l.set k (n:Int) else (List.replicate 24 (0:Int)).set k (n:Int)
theorem OW.far {w X:World} {B g:Nat} {v:Value} {S:List RS} {m:List (List WD)} (h:OW w B v S m) (hne:∀ (i:Nat) (r:RS),S[i]? =some r→0 < r.vs.length) (hv:v.ownBlock≠some g) (hsep:∀ a∈mAs S,a.block≠g) (hk:∀ b,b < w.heap.size→b≠g→X.heap[b]? =w.heap[b]?) (hs:w.heap.size≤X.heap.size):OW X B v S m:=by
 refine ⟨h.n,ownKeep' h.row (fun b e=>hk b (World.ownsRow.lt h.row _ e).2 (fun e'=>hv (by rw [e,e']))),fun i r l hr hl=>?_,h.d⟩
 have q:=h.r i r l hr hl
 refine q.kept (fun b e=>hk b (World.ownsRow.lt q.own _ e).2 (fun e'=>?_)) (fun a ha=>hk _ (q.blk ha).2 ?_) hs
 ·obtain ⟨g1,cap1,f1,-⟩:=World.ownsRow.form q.own (hne i r hr)
  have s1:r.s=some ⟨g1,0,none⟩:=by unfold RS.val at f1;injection f1 with f1
  have b1:g1=b:=by unfold RS.val at e;rw [s1] at e;injection e
  exact hsep ⟨g1,0,none⟩ (mem_mAs.2 ⟨r,List.mem_of_getElem? hr,mem_rAs.2 (.inl ⟨0,hne i r hr,by rw [s1];rfl⟩)⟩) (by show g1=g;omega)
 ·obtain ⟨x',hx',hax⟩:=mem_vsA.1 ha
  exact hsep a (mem_mAs.2 ⟨r,List.mem_of_getElem? hr,mem_rAs.2 (.inr ⟨x',hx',hax⟩)⟩)
theorem OW.outNe {w:World} {B gO n c:Nat} {S:List RS} {m:List (List WD)} (h:OW w B (.slice (some ⟨gO,0,none⟩) n c) S m) {k:Nat} {r:RS} {l:List WD} (hk:S[k]? =some r) (hl:m[k]? =some l) {b:Nat} (e:r.val.ownBlock=some b):b≠gO:=fun e'=>by
 subst e'
 obtain ⟨cs,c1⟩:=(h.r k r l hk hl).blkT e
 obtain ⟨cs',ocs⟩:=rows_blkT h.row (k:=b) rfl
 rw [c1] at ocs
 injection ocs with ocs
 injection ocs with _ ocs
 exact absurd ocs (by decide)
theorem made_set (n k:Nat) (v:Value):((madeCells #[.int .i64 0] n).setIfInBounds k v).toList=(List.replicate n (.int .i64 0)).set k v:=by
 rw [Array.toList_setIfInBounds,toList_madeCells_one]
set_option maxHeartbeats 4000000 in
theorem store_any (gO cO B bv g cap : Nat) (S : List RS) (m : List (List WD)) (r : RS) (lr : List WD) (l : List Int) (k : Nat) (z : Int) (b : Bool) (w : World) (ho : OwnN w bv (.slice (some ⟨g, 0, none⟩) l.length cap) l) (hM : OW w B (.slice (some ⟨gO, 0, none⟩) m.length cO) S m) (hne : ∀ (i : Nat) (r : RS), S[i]? = some r → 0 < r.vs.length)
  (hk:S[k]? =some r) (hlm:m[k]? =some lr) (hl:l.length=24) (hkl:k < 24) (hml:m.length=24) (hlr:lr.length≤4000) (hBg:B≤g) (hsep:∀ a∈mAs S,a.block≠g):
  Calls Tryz.prog 127 #[.slice (some ⟨g,0,none⟩) l.length cap,.agg #[.slice (some ⟨gO,0,none⟩) m.length cO],.int .i64 k,.int .i64 z,.bool b] w fun e w'=>e=.returned (.tuple #[])∧∃ r',OwnN w' bv (.slice (some ⟨g,0,none⟩) l.length cap) (l.set k (lr.length:Int))∧OW w' B (.slice (some ⟨gO,0,none⟩) m.length cO) (S.set k r') (m.set k (lr++[⟨z,toldL l k lr.length b⟩]))∧Below B w w'∧(∀ a∈mAs (S.set k r'),a.block≠g)∧(∀ b,b < w.heap.size→b≠g→b≠gO→r.val.ownBlock≠some b→w'.heap[b]? =w.heap[b]?)∧(∀ a∈mAs (S.set k r'),(∃ a'∈mAs S,a'.block=a.block)∨w.heap.size≤a.block):=by
 have hg:=(World.ownsRow.lt ho g rfl).2
 have hrow:=hM.row
 rw [hM.n] at hrow
 have hgO:=World.ownsRow.lt hrow gO rfl
 have q:=hM.r k r lr hk hlm
 have hrv:r.vs.length=lr.length:=q.n
 have c1:w.cell? ⟨gO,k,none⟩=some (.slice r.s lr.length r.c):=by
  rw [World.ownsRow.cellAt hrow k (by omega),List.getElem?_map,hk]
  simp [RS.val,hrv]
 have f1:∀ j,w.frozen? ⟨gO,j,none⟩=false:=fun j=>World.ownsRow.frozenAt hrow j
 have e1:w.cell? ⟨g,k,none⟩=some (.int .i64 (l.getD k 0)):=ho.cell (by omega)
 have f2:∀ j,w.frozen? ⟨g,j,none⟩=false:=fun j=>World.ownsRow.frozenAt ho j
 have ngO:gO≠g:=by
  intro e
  obtain ⟨cs,h1⟩:=rows_blkT hrow (k:=gO) rfl
  rcases ho.2 with ⟨e2,-⟩ | ⟨g',cap',cur,e2,-,h2,-⟩
  ·cases e2
  ·injection e2 with e2;injection e2 with e2;injection e2 with e2
   subst e2
   rw [e,h2] at h1
   injection h1 with h1
   injection h1 with _ h1
   exact absurd h1 (by decide)
 have HO:Hid (OwnN w bv (.slice (some ⟨g,0,none⟩) l.length cap) l):=ho
 have HM:Hid (OW w B (.slice (some ⟨gO,0,none⟩) m.length cO) S m):=hM
 have HLL:Hid (l.length=24):=hl
 have HML:Hid (m.length=24):=hml
 have B0:(0:Int)≤(k:Int):=by omega
 have B1:(k:Int) < (l.length:Int):=by omega
 have B2:(k:Int) < (m.length:Int):=by omega
 have hl2:l.length≤1048577:=by omega
 have hmk:=mkView' l.length hl2
 have hmc:(madeCells #[.int .i64 0] l.length)[k]? =some (.int .i64 0):=by rw [← Array.getElem?_toList,toList_madeCells_one,List.getElem?_replicate,if_pos (by omega)]
 have valB:(Value.slice r.s lr.length r.c).ownBlock=r.val.ownBlock:=by unfold RS.val;cases r.s<;>rfl
 have RB:Hid (∀ b,r.val.ownBlock=some b→¬ b=w.heap.size):=fun b e=>by have:=(World.ownsRow.lt q.own _ e).2;omega
 clear ho hM hrow q hl hml
 go_enter Tryz.func127,Tryz.ntmps127
 cases b
 ·go_wp2_with fail
  obtain ⟨W0,hW0⟩:∃ W0,(w.setCell ⟨g,k,none⟩ (.int .i64 lr.length)).alloc (.cells #[.slice (some ⟨gO,0,none⟩) m.length cO] 37)=W0:=⟨_,rfl⟩
  have s0:W0.heap.size=w.heap.size+1:=by subst hW0;simp
  have k0:∀ b,b < w.heap.size→b≠g→W0.heap[b]? =w.heap[b]? :=fun b h1 h2=>by subst hW0;rw [Below.heap_alloc _ _ _ (by simpa using h1),Below.heap_setCell _ _ _ b h2]
  have x00:W0.cell? ⟨w.heap.size,0,none⟩=some (.slice (some ⟨gO,0,none⟩) m.length cO):=by subst hW0;simp [go_sem]
  have OV0:Hid (OwnN W0 bv (.slice (some ⟨g,0,none⟩) l.length cap) (l.set k (lr.length:Int))):=by
   subst hW0
   have p5:=(World.ownsRow.stored HO.out k (.int .i64 lr.length)).1
   show OwnN _ _ _ _
   refine OwnN.alloc ?_ _
   unfold OwnN
   rw [List.map_set,List.length_set]
   exact p5
  have HM0:Hid (OW W0 B (.slice (some ⟨gO,0,none⟩) m.length cO) S m):=HM.out.far hne (fun e=>ngO (by injection e)) hsep k0 (by omega)
  have c20:W0.cell? ⟨gO,k,none⟩=some (.slice r.s lr.length r.c):=(World.cell?_of_block (w:=w) (k0 gO (by omega) ngO)).trans c1
  have f30:∀ j,W0.frozen? ⟨gO,j,none⟩=false:=fun j=>(World.frozen?_of_block (w:=w) (k0 gO (by omega) ngO)).trans (f1 j)
  have KW:Hid (Below B w W0):=by
   subst hW0
   exact ((Below.refl _ _).setCell (p:=⟨g,k,none⟩) hBg _).alloc (by simp;omega) _
  obtain ⟨X,hX⟩:∃ X,W0.alloc (.cells ((madeCells #[.int .i64 0] l.length).setIfInBounds k (.int .i64 lr.length)) 3)=X:=⟨_,rfl⟩
  have KX:Hid (Below W0.heap.size W0 X):=by subst hX;exact (Below.refl _ _).alloc (Nat.le_refl _) _
  have TX:Hid (OwnN X W0.heap.size (.slice (some ⟨w.heap.size+1,0,none⟩) l.length l.length) ((List.replicate 24 (0:Int)).set k (lr.length:Int))):=by
   subst hX
   have h0:=World.ownsRow_lit (base:=W0.heap.size) (e:=3) (size:=1) W0 ((madeCells #[.int .i64 0] l.length).setIfInBounds k (.int .i64 lr.length)) l.length (Nat.le_refl _) (by unfold maxLen;omega) (by simp [size_madeCells])
   rw [made_set,s0] at h0
   show OwnN _ _ _ _
   unfold OwnN
   rw [List.map_set,List.map_replicate,List.length_set,List.length_replicate,s0,← HLL.out]
   exact h0
  rw [hW0,hX]
  have OVX:Hid (OwnN X bv (.slice (some ⟨g,0,none⟩) l.length cap) (l.set k (lr.length:Int))):=OV0.out.below KX.out
  have HK0:Hid (∀ b,b < w.heap.size→b≠g→W0.heap[b]? =w.heap[b]?):=k0
  clear hW0 hX k0 OV0
  have OWX:Hid (OW (X.drew.alloc (.cells #[.int .i64 z,.slice (some ⟨w.heap.size+1,0,none⟩) l.length l.length] 127)) B (.slice (some ⟨gO,0,none⟩) m.length cO) S m):=(HM0.out.below KX.out).below ((Below.drew (Below.refl _ _)).alloc (Nat.le_refl _) _)
  have c2:X.cell? ⟨gO,k,none⟩=some (.slice r.s lr.length r.c):=(KX.out.cell (p:=⟨gO,k,none⟩) (by show gO < _;omega)).trans c20
  have f3:∀ j,X.frozen? ⟨gO,j,none⟩=false:=fun j=>(KX.out.frozen (p:=⟨gO,j,none⟩) (by show gO < _;omega)).trans (f30 j)
  have x0:X.cell? ⟨w.heap.size,0,none⟩=some (.slice (some ⟨gO,0,none⟩) m.length cO):=(KX.out.cell (p:=⟨w.heap.size,0,none⟩) (by show w.heap.size < _;omega)).trans x00
  have zX:=KX.out.size
  have z1:w.heap.size < X.heap.size:=by omega
  have z2:gO < X.heap.size:=by omega
  have z3:B≤X.heap.size:=by omega
  go_region_law (refine step_rec rfl _ _ rfl (X.drew.alloc (.cells #[.int .i64 z,.slice (some ⟨w.heap.size+1,0,none⟩) l.length l.length] 127)) B (.slice r.s lr.length r.c) lr.length (flatV r.vs lr) rfl (by have:=(OWX.out.r k r lr hk hlm).own;unfold RS.val at this;rw [hrv] at this;exact this) X.heap.size (.int .i64 z) (.slice (some ⟨w.heap.size+1,0,none⟩) l.length l.length) rfl rfl rfl (by simp [go_sem]) (by simp [go_sem]) (by omega) (by simp;omega) ?_;intro g6 c6 w6 ho6 hg6 hn6 hl6;have oc:w6.heap[gO]? =X.heap[gO]? :=(hg6.block gO (by simp;omega) (fun e=>(OWX.out.outNe hk hlm (b:=gO) (by rw [← valB];exact e.symm)) rfl)).trans (show _=X.heap[gO]? from Below.heap_alloc X.drew _ _ z2);have ob:w6.heap[w.heap.size]? =X.heap[w.heap.size]? :=(hg6.block w.heap.size (by simp;omega) (fun e=>RB.out w.heap.size (by rw [← valB];exact e.symm) rfl)).trans (show _=X.heap[w.heap.size]? from Below.heap_alloc X.drew _ _ z1);have t0:=(World.cell?_of_block (w:=X) (a:=⟨w.heap.size,0,none⟩) ob).trans x0;have t1:=(World.cell?_of_block (w:=X) (a:=⟨gO,k,none⟩) oc).trans c2;have t2:∀ j,w6.frozen? ⟨gO,j,none⟩=false:=(fun j=>(World.frozen?_of_block (w:=X) (a:=⟨gO,j,none⟩) oc).trans (f3 j));have HO6:=(show Hid _ from ho6);have HG6:=(show Hid _ from hg6);have HN6:=(show Hid _ from hn6);clear ho6 hg6 hn6)
  all_goals
   go_end0
   obtain ⟨v1,v2,v3,v4⟩:=ownV TX.out (by rw [List.length_set];rw [List.length_replicate];exact HLL.out)
   have al:Below X.heap.size X (X.drew.alloc (.cells #[.int .i64 z,.slice (some ⟨w.heap.size+1,0,none⟩) l.length l.length] 127)):=(Below.drew (Below.refl _ _)).alloc (Nat.le_refl _) _
   have gr:∀ b,r.val.ownBlock=some b→b≠g:=fun b e e'=>by
    obtain ⟨g1,cap1,f1,-⟩:=World.ownsRow.form (HM.out.r k r lr hk hlm).own (hne k r hk)
    have s1:r.s=some ⟨g1,0,none⟩:=by unfold RS.val at f1;injection f1 with f1
    have b1:g1=b:=by unfold RS.val at e;rw [s1] at e;injection e
    exact hsep ⟨g1,0,none⟩ (mem_mAs.2 ⟨r,List.mem_of_getElem? hk,mem_rAs.2 (.inl ⟨0,hne k r hk,by rw [s1];rfl⟩)⟩) (by show g1=g;omega)
   refine ⟨rfl,⟨some ⟨g6,0,none⟩,c6,r.vs++[⟨some ⟨w.heap.size+1,0,none⟩,l.length,l.length⟩]⟩,?_,?_,?_,fun a ha=>?_,fun b h1 h2 h3 h4=>?_,fun a ha=>?_⟩
   ·refine ownKeep' OVX.out (fun b e=>?_)
    have e9:some g=some b:=e
    injection e9 with e9
    subst e9
    rw [Below.heap_setCell _ _ _ _ (show g≠gO from fun e=>ngO e.symm)]
    exact (HG6.out.block g (by simp;omega) (fun e=>gr g (by rw [← valB];exact e.symm) rfl)).trans (show _=X.heap[g]? from Below.heap_alloc X.drew _ _ (by show g < X.heap.size;omega))
   ·have hP:=HM0.out.setRow (w1:=X.drew.alloc (.cells #[.int .i64 z,.slice (some ⟨w.heap.size+1,0,none⟩) l.length l.length] 127)) (w2:=w6) (g:=g6) (cap:=c6) ⟨some ⟨w.heap.size+1,0,none⟩,l.length,l.length⟩ ⟨z,(List.replicate 24 (0:Int)).set k (lr.length:Int)⟩ (KX.out.trans (al.mono zX)) (by omega) hne hk hlm ((v1.keep (Keep.of_below al (Nat.le_refl _))).mono (Nat.le_refl _) al.size) (fun a ha=>by obtain ⟨cs,f,e⟩:=v2 a ha;exact ⟨cs,f,(al.block _ (v1.blk ha).2).trans e⟩) v3 (by rw [hrv];exact HO6.out) (by rw [← valB];exact HG6.out) (by rw [← valB];exact HN6.out)
    rw [hrv] at hP
    exact hP
   ·exact ((KW.out.trans (KX.out.mono (by omega))).trans (Below.grown (al.mono (by omega)) HG6.out (by simp;omega) (fun j hj=>(World.ownsRow.lt (OWX.out.r k r lr hk hlm).own j (by rw [← valB];exact hj)).1))).setCell (p:=⟨gO,k,none⟩) hgO.1 _
   ·obtain ⟨r1,hr1,har⟩:=mem_mAs.1 ha
    rcases List.mem_or_eq_of_mem_set hr1 with hr1 | hr1
    ·exact hsep a (mem_mAs.2 ⟨r1,hr1,har⟩)
    ·subst hr1
     rcases mem_rAs.1 har with ⟨i,hi',e⟩ | ⟨x',hx',hax⟩
     ·have eb:a.block=g6:=by rw [e];rfl
      rcases HN6.out with hn | hn
      ·have:=gr g6 (by rw [← valB];exact hn)
       omega
      ·simp at hn
       have hn2:X.heap.size+1≤g6:=hn
       omega
     ·rcases List.mem_append.1 hx' with hx' | hx'
      ·exact hsep a (mem_mAs.2 ⟨r,List.mem_of_getElem? hk,mem_rAs.2 (.inr ⟨x',hx',hax⟩)⟩)
      ·simp at hx'
       subst hx'
       have:=v4 a hax
       omega
   ·rw [Below.heap_setCell _ _ _ _ (show b≠gO from h3)]
    exact ((HG6.out.block b (by simp;omega) (fun e=>h4 (by rw [← valB];exact e.symm))).trans (show _=X.heap[b]? from Below.heap_alloc X.drew _ _ (by show b < X.heap.size;omega))).trans ((KX.out.block b (by omega)).trans (HK0.out b h1 h2))
   ·obtain ⟨r1,hr1,har⟩:=mem_mAs.1 ha
    rcases List.mem_or_eq_of_mem_set hr1 with hr1 | hr1
    ·exact .inl ⟨a,mem_mAs.2 ⟨r1,hr1,har⟩,rfl⟩
    ·subst hr1
     rcases mem_rAs.1 har with ⟨i,hi',e⟩ | ⟨x',hx',hax⟩
     ·have eb:a.block=g6:=by rw [e];rfl
      rcases HN6.out with hn | hn
      ·refine .inl ⟨adr r.s ((0+0) * 2),mem_mAs.2 ⟨r,List.mem_of_getElem? hk,mem_rAs.2 (.inl ⟨0,hne k r hk,rfl⟩)⟩,?_⟩
       rw [eb]
       cases hs:r.s with
       | none=>rw [hs] at hn;cases hn
       | some p=>rw [hs] at hn;injection hn
      ·simp at hn
       have hn2:X.heap.size+1≤g6:=hn
       exact .inr (by omega)
     ·rcases List.mem_append.1 hx' with hx' | hx'
      ·exact .inl ⟨a,mem_mAs.2 ⟨r,List.mem_of_getElem? hk,mem_rAs.2 (.inr ⟨x',hx',hax⟩)⟩,rfl⟩
      ·simp at hx'
       subst hx'
       have:=v4 a hax
       exact .inr (by omega)
 ·obtain ⟨W0,hW0⟩:∃ W0,(w.setCell ⟨g,k,none⟩ (.int .i64 lr.length)).alloc (.cells #[.slice (some ⟨gO,0,none⟩) m.length cO] 37)=W0:=⟨_,rfl⟩
  have s0:W0.heap.size=w.heap.size+1:=by subst hW0;simp
  have k0:∀ b,b < w.heap.size→b≠g→W0.heap[b]? =w.heap[b]? :=fun b h1 h2=>by subst hW0;rw [Below.heap_alloc _ _ _ (by simpa using h1),Below.heap_setCell _ _ _ b h2]
  have x00:W0.cell? ⟨w.heap.size,0,none⟩=some (.slice (some ⟨gO,0,none⟩) m.length cO):=by subst hW0;simp [go_sem]
  have OV0:Hid (OwnN W0 bv (.slice (some ⟨g,0,none⟩) l.length cap) (l.set k (lr.length:Int))):=by
   subst hW0
   have p5:=(World.ownsRow.stored HO.out k (.int .i64 lr.length)).1
   show OwnN _ _ _ _
   refine OwnN.alloc ?_ _
   unfold OwnN
   rw [List.map_set,List.length_set]
   exact p5
  have HM0:Hid (OW W0 B (.slice (some ⟨gO,0,none⟩) m.length cO) S m):=HM.out.far hne (fun e=>ngO (by injection e)) hsep k0 (by omega)
  have c20:W0.cell? ⟨gO,k,none⟩=some (.slice r.s lr.length r.c):=(World.cell?_of_block (w:=w) (k0 gO (by omega) ngO)).trans c1
  have f30:∀ j,W0.frozen? ⟨gO,j,none⟩=false:=fun j=>(World.frozen?_of_block (w:=w) (k0 gO (by omega) ngO)).trans (f1 j)
  have KW:Hid (Below B w W0):=by
   subst hW0
   exact ((Below.refl _ _).setCell (p:=⟨g,k,none⟩) hBg _).alloc (by simp;omega) _
  have Y0:Hid ((W0.alloc (.cells ((madeCells #[.int .i64 0] l.length).setIfInBounds k (.int .i64 lr.length)) 3)).heap[w.heap.size+1]? =some (.cells ((List.replicate l.length (Value.int .i64 0)).set k (.int .i64 lr.length)).toArray 3 (0,0))):=by
   show _=_
   rw [← made_set,Array.toArray_toList,← s0]
   exact heap_alloc_new _ _
  have YR:Hid (IntsR (W0.alloc (.cells ((madeCells #[.int .i64 0] l.length).setIfInBounds k (.int .i64 lr.length)) 3)) bv (w.heap.size+1) (some ⟨g,0,none⟩) (l.set k (lr.length:Int))):=by
   have h9:IntsR W0 bv W0.heap.size (some ⟨g,0,none⟩) (l.set k (lr.length:Int)):=ownN_intsR (c:=cap) (by rw [List.length_set];exact OV0.out)
   rw [← s0]
   exact h9.keep (Keep.of_below ((Below.refl _ _).alloc (Nat.le_refl _) _) (Nat.le_refl _))
  rw [← hW0] at Y0 YR
  have HW0:Hid ((w.setCell ⟨g,k,none⟩ (.int .i64 lr.length)).alloc (.cells #[.slice (some ⟨gO,0,none⟩) m.length cO] 37)=W0):=hW0
  clear hW0
  have hls:(l.set k (lr.length:Int)).length=l.length:=List.length_set
  go_wp2_with (refine app_copyV rfl _ _ 113 rfl _ (w.heap.size+1) 0 _ Y0.out (some ⟨w.heap.size+1,0,none⟩) (some ⟨g,0,none⟩) l.length l.length cap rfl rfl (l.set k (lr.length:Int)) hls (fun _=>rfl) YR.out (by simp) ?_;intro X hgX exX szX)
  rw [HW0.out] at exX szX
  have KX:Hid (Below W0.heap.size W0 X):=((Below.refl _ _).alloc (Nat.le_refl _) _).trans (exX.below (by omega) (by simp))
  have TX:Hid (OwnN X W0.heap.size (.slice (some ⟨w.heap.size+1,0,none⟩) l.length l.length) (l.set k (lr.length:Int))):=by
   show OwnN _ _ _ _
   have h9:=ownN_mk (w:=X) (base:=W0.heap.size) (g:=w.heap.size+1) (l:=l.set k (lr.length:Int)) (by omega) (by rw [hls];unfold maxLen;omega) hgX (by simp [splice,hls])
   rw [hls] at h9
   exact h9
  have OVX:Hid (OwnN X bv (.slice (some ⟨g,0,none⟩) l.length cap) (l.set k (lr.length:Int))):=OV0.out.below KX.out
  have HK0:Hid (∀ b,b < w.heap.size→b≠g→W0.heap[b]? =w.heap[b]?):=k0
  clear HW0 hgX exX szX k0 OV0 Y0 YR hls
  have OWX:Hid (OW (X.drew.alloc (.cells #[.int .i64 z,.slice (some ⟨w.heap.size+1,0,none⟩) l.length l.length] 127)) B (.slice (some ⟨gO,0,none⟩) m.length cO) S m):=(HM0.out.below KX.out).below ((Below.drew (Below.refl _ _)).alloc (Nat.le_refl _) _)
  have c2:X.cell? ⟨gO,k,none⟩=some (.slice r.s lr.length r.c):=(KX.out.cell (p:=⟨gO,k,none⟩) (by show gO < _;omega)).trans c20
  have f3:∀ j,X.frozen? ⟨gO,j,none⟩=false:=fun j=>(KX.out.frozen (p:=⟨gO,j,none⟩) (by show gO < _;omega)).trans (f30 j)
  have x0:X.cell? ⟨w.heap.size,0,none⟩=some (.slice (some ⟨gO,0,none⟩) m.length cO):=(KX.out.cell (p:=⟨w.heap.size,0,none⟩) (by show w.heap.size < _;omega)).trans x00
  have zX:=KX.out.size
  have z1:w.heap.size < X.heap.size:=by omega
  have z2:gO < X.heap.size:=by omega
  have z3:B≤X.heap.size:=by omega
  go_region_law (refine step_rec rfl _ _ rfl (X.drew.alloc (.cells #[.int .i64 z,.slice (some ⟨w.heap.size+1,0,none⟩) l.length l.length] 127)) B (.slice r.s lr.length r.c) lr.length (flatV r.vs lr) rfl (by have:=(OWX.out.r k r lr hk hlm).own;unfold RS.val at this;rw [hrv] at this;exact this) X.heap.size (.int .i64 z) (.slice (some ⟨w.heap.size+1,0,none⟩) l.length l.length) rfl rfl rfl (by simp [go_sem]) (by simp [go_sem]) (by omega) (by simp;omega) ?_;intro g6 c6 w6 ho6 hg6 hn6 hl6;have oc:w6.heap[gO]? =X.heap[gO]? :=(hg6.block gO (by simp;omega) (fun e=>(OWX.out.outNe hk hlm (b:=gO) (by rw [← valB];exact e.symm)) rfl)).trans (show _=X.heap[gO]? from Below.heap_alloc X.drew _ _ z2);have ob:w6.heap[w.heap.size]? =X.heap[w.heap.size]? :=(hg6.block w.heap.size (by simp;omega) (fun e=>RB.out w.heap.size (by rw [← valB];exact e.symm) rfl)).trans (show _=X.heap[w.heap.size]? from Below.heap_alloc X.drew _ _ z1);have t0:=(World.cell?_of_block (w:=X) (a:=⟨w.heap.size,0,none⟩) ob).trans x0;have t1:=(World.cell?_of_block (w:=X) (a:=⟨gO,k,none⟩) oc).trans c2;have t2:∀ j,w6.frozen? ⟨gO,j,none⟩=false:=(fun j=>(World.frozen?_of_block (w:=X) (a:=⟨gO,j,none⟩) oc).trans (f3 j));have HO6:=(show Hid _ from ho6);have HG6:=(show Hid _ from hg6);have HN6:=(show Hid _ from hn6);clear ho6 hg6 hn6)
  all_goals
   go_end0
   obtain ⟨v1,v2,v3,v4⟩:=ownV TX.out (by rw [List.length_set])
   have al:Below X.heap.size X (X.drew.alloc (.cells #[.int .i64 z,.slice (some ⟨w.heap.size+1,0,none⟩) l.length l.length] 127)):=(Below.drew (Below.refl _ _)).alloc (Nat.le_refl _) _
   have gr:∀ b,r.val.ownBlock=some b→b≠g:=fun b e e'=>by
    obtain ⟨g1,cap1,f1,-⟩:=World.ownsRow.form (HM.out.r k r lr hk hlm).own (hne k r hk)
    have s1:r.s=some ⟨g1,0,none⟩:=by unfold RS.val at f1;injection f1 with f1
    have b1:g1=b:=by unfold RS.val at e;rw [s1] at e;injection e
    exact hsep ⟨g1,0,none⟩ (mem_mAs.2 ⟨r,List.mem_of_getElem? hk,mem_rAs.2 (.inl ⟨0,hne k r hk,by rw [s1];rfl⟩)⟩) (by show g1=g;omega)
   refine ⟨rfl,⟨some ⟨g6,0,none⟩,c6,r.vs++[⟨some ⟨w.heap.size+1,0,none⟩,l.length,l.length⟩]⟩,?_,?_,?_,fun a ha=>?_,fun b h1 h2 h3 h4=>?_,fun a ha=>?_⟩
   ·refine ownKeep' OVX.out (fun b e=>?_)
    have e9:some g=some b:=e
    injection e9 with e9
    subst e9
    rw [Below.heap_setCell _ _ _ _ (show g≠gO from fun e=>ngO e.symm)]
    exact (HG6.out.block g (by simp;omega) (fun e=>gr g (by rw [← valB];exact e.symm) rfl)).trans (show _=X.heap[g]? from Below.heap_alloc X.drew _ _ (by show g < X.heap.size;omega))
   ·have hP:=HM0.out.setRow (w1:=X.drew.alloc (.cells #[.int .i64 z,.slice (some ⟨w.heap.size+1,0,none⟩) l.length l.length] 127)) (w2:=w6) (g:=g6) (cap:=c6) ⟨some ⟨w.heap.size+1,0,none⟩,l.length,l.length⟩ ⟨z,l.set k (lr.length:Int)⟩ (KX.out.trans (al.mono zX)) (by omega) hne hk hlm ((v1.keep (Keep.of_below al (Nat.le_refl _))).mono (Nat.le_refl _) al.size) (fun a ha=>by obtain ⟨cs,f,e⟩:=v2 a ha;exact ⟨cs,f,(al.block _ (v1.blk ha).2).trans e⟩) v3 (by rw [hrv];exact HO6.out) (by rw [← valB];exact HG6.out) (by rw [← valB];exact HN6.out)
    rw [hrv] at hP
    exact hP
   ·exact ((KW.out.trans (KX.out.mono (by omega))).trans (Below.grown (al.mono (by omega)) HG6.out (by simp;omega) (fun j hj=>(World.ownsRow.lt (OWX.out.r k r lr hk hlm).own j (by rw [← valB];exact hj)).1))).setCell (p:=⟨gO,k,none⟩) hgO.1 _
   ·obtain ⟨r1,hr1,har⟩:=mem_mAs.1 ha
    rcases List.mem_or_eq_of_mem_set hr1 with hr1 | hr1
    ·exact hsep a (mem_mAs.2 ⟨r1,hr1,har⟩)
    ·subst hr1
     rcases mem_rAs.1 har with ⟨i,hi',e⟩ | ⟨x',hx',hax⟩
     ·have eb:a.block=g6:=by rw [e];rfl
      rcases HN6.out with hn | hn
      ·have:=gr g6 (by rw [← valB];exact hn)
       omega
      ·simp at hn
       have hn2:X.heap.size+1≤g6:=hn
       omega
     ·rcases List.mem_append.1 hx' with hx' | hx'
      ·exact hsep a (mem_mAs.2 ⟨r,List.mem_of_getElem? hk,mem_rAs.2 (.inr ⟨x',hx',hax⟩)⟩)
      ·simp at hx'
       subst hx'
       have:=v4 a hax
       omega
   ·rw [Below.heap_setCell _ _ _ _ (show b≠gO from h3)]
    exact ((HG6.out.block b (by simp;omega) (fun e=>h4 (by rw [← valB];exact e.symm))).trans (show _=X.heap[b]? from Below.heap_alloc X.drew _ _ (by show b < X.heap.size;omega))).trans ((KX.out.block b (by omega)).trans (HK0.out b h1 h2))
   ·obtain ⟨r1,hr1,har⟩:=mem_mAs.1 ha
    rcases List.mem_or_eq_of_mem_set hr1 with hr1 | hr1
    ·exact .inl ⟨a,mem_mAs.2 ⟨r1,hr1,har⟩,rfl⟩
    ·subst hr1
     rcases mem_rAs.1 har with ⟨i,hi',e⟩ | ⟨x',hx',hax⟩
     ·have eb:a.block=g6:=by rw [e];rfl
      rcases HN6.out with hn | hn
      ·refine .inl ⟨adr r.s ((0+0) * 2),mem_mAs.2 ⟨r,List.mem_of_getElem? hk,mem_rAs.2 (.inl ⟨0,hne k r hk,rfl⟩)⟩,?_⟩
       rw [eb]
       cases hs:r.s with
       | none=>rw [hs] at hn;cases hn
       | some p=>rw [hs] at hn;injection hn
      ·simp at hn
       have hn2:X.heap.size+1≤g6:=hn
       exact .inr (by omega)
     ·rcases List.mem_append.1 hx' with hx' | hx'
      ·exact .inl ⟨a,mem_mAs.2 ⟨r,List.mem_of_getElem? hk,mem_rAs.2 (.inr ⟨x',hx',hax⟩)⟩,rfl⟩
      ·simp at hx'
       subst hx'
       have:=v4 a hax
       exact .inr (by omega)
end
section
set_option linter.unusedSimpArgs false
set_option linter.unusedVariables false
set_option maxRecDepth 100000
open Go.RowKit
def wI (x:Int):Int:=IntKind.i64.wrap x
def regA (k:KD) (i:Int):Int:=k.regs.getD i.toNat 0
def setR (k:KD) (r v:Int):KD:={ k with regs:=k.regs.set r.toNat v }
def putK (d:MD) (who:Nat) (k:KD):MD:={ d with cores:=d.cores.set who k }
/- the cell that a step names -/
def cellM (k:KD) (s:I5):Int:=if s.o≠8∧0≤s.a then wI (s.n+regA k s.a) else s.n
def ldJ (m:List (List WD)) (l:List Int) (c:Nat) (late:Int):Nat:=(mx (l.getD c 0) (((m.getD c []).length:Int) - 1 - mx late 0)).toNat
def ldX (m:List (List WD)) (l:List Int) (c:Nat) (late:Int):WD:=(m.getD c []).getD (ldJ m l c late) ⟨0,[]⟩
def ldW (m:List (List WD)) (l:List Int) (c:Nat) (late:Int) (hold:Bool):List Int:=if hold=true then joinL (l.set c (ldJ m l c late)) (ldX m l c late).vw else l.set c (ldJ m l c late)
def stM (m:List (List WD)) (l:List Int) (c:Nat) (z:Int) (b:Bool):List (List WD):=m.set c (m.getD c []++[⟨z,toldL l c (m.getD c []).length b⟩])
def stW (m:List (List WD)) (l:List Int) (c:Nat):List Int:=l.set c ((m.getD c []).length:Int)
/- where a core goes on; beyond its code it faults -/
def goM (d:MD) (who:Nat) (k:KD) (n:Nat) (p:Int):MD:=if p < (n:Int) then putK d who { k with pc:=p } else putK d who { k with st:=2 }
def memS (d:MD) (late:Int) (k:KD) (s:I5) (c:Nat):MD×KD:=
 if s.o=5 then (d,{ k with regs:=k.regs.set s.r.toNat (ldX d.mem k.vw c late).v,vw:=ldW d.mem k.vw c late false })
 else if s.o=8 then ({ d with mem:=stM d.mem (ldW d.mem k.vw c 0 true) c (regA k s.b) true },{ k with regs:=k.regs.set s.r.toNat (ldX d.mem k.vw c 0).v,vw:=stW d.mem (ldW d.mem k.vw c 0 true) c })
 else ({ d with mem:=stM d.mem k.vw c (regA k s.b) (decide (s.o=7)) },{ k with vw:=stW d.mem k.vw c })
def stepAt (d:MD) (who:Nat) (late:Int) (k:KD) (n:Nat) (s:I5):MD×Int:=
 if s.o=1 then (goM d who (setR k s.r s.n) n (k.pc+1),0)
 else if s.o=2 then (goM d who (setR k s.r (wI (regA k s.a+regA k s.b))) n (k.pc+1),0)
 else if s.o=3 then (goM d who (setR k s.r (wI (regA k s.a - regA k s.b))) n (k.pc+1),0)
 else if s.o=4 then (goM d who (setR k s.r (if regA k s.a < regA k s.b then 1 else 0)) n (k.pc+1),0)
 else if s.o=9 then (if d.tr.length=4000 then (d,3) else (goM { d with tr:=d.tr++[⟨who,regA k s.a⟩] } who k n (k.pc+1),0))
 else if s.o=10 then (goM d who k n s.n,0)
 else if s.o=11 then (goM d who k n (if regA k s.a=0 then s.n else k.pc+1),0)
 else if s.o=12 then (putK d who { k with st:=1 },0)
 else if s.o=13 then (putK d who { k with st:=2 },0)
 else if 0≤cellM k s∧cellM k s≤23 then
  (if s.o≠5∧(d.mem.getD (cellM k s).toNat []).length=4000 then (d,3)
   else (goM (memS d late k s (cellM k s).toNat).1 who (memS d late k s (cellM k s).toNat).2 n (k.pc+1),0))
 else (putK d who { k with st:=2 },0)
/- a step by a pick: 2: nobody such, 3: it does not run -/
def stepM (d:MD) (who late:Int):MD×Int:=
 if 0≤who∧who < (d.cores.length:Int) then
  (match d.cores[who.toNat]?,d.codes[who.toNat]? with
   | some k,some code=>if k.st=0 then stepAt d who.toNat late k code.length (code.getD k.pc.toNat z5) else (d,3)
   | _,_=>(d,3))
 else (d,2)
/- what a right machine tells of a core -/
structure At8 (d:MD) (who:Nat) (k:KD) (code:List I5) (s:I5):Prop where
 hk:d.cores[who]? =some k
 hc:d.codes[who]? =some code
 hs:code[k.pc.toNat]? =some s
 hz:code.getD k.pc.toNat z5=s
 pc0:0≤k.pc
 pcl:k.pc < (code.length:Int)
 n1:1≤code.length
 n8:code.length≤800
 regs:k.regs.length=8
 vw:viewB d.mem k.vw=true
 st0:0≤k.st
 st2:k.st≤2
 ok:stX s code.length=true
 mem:memB d.mem=true
 tr:d.tr.length≤4000
theorem mach_len {d:MD} (h:machB d=true):d.cores.length=d.codes.length:=by
 unfold machB coresB at h
 simp only [Bool.and_eq_true,decide_eq_true_eq] at h
 exact h.2.1.1
theorem mach_at {d:MD} (h:machB d=true) {who:Nat} (hw:who < d.cores.length):∃ k code s,At8 d who k code s:=by
 have hl:=mach_len h
 unfold machB at h
 rw [Bool.and_eq_true,Bool.and_eq_true,Bool.and_eq_true] at h
 obtain ⟨hc,hk,ht,hm⟩:=h
 obtain ⟨k,ek⟩:∃ k,d.cores[who]? =some k:=⟨_,List.getElem?_eq_getElem hw⟩
 obtain ⟨code,ec⟩:∃ c,d.codes[who]? =some c:=⟨_,List.getElem?_eq_getElem (by omega)⟩
 have hz:(d.cores.zip d.codes)[who]? =some (k,code):=by rw [List.getElem?_zip_eq_some];exact ⟨ek,ec⟩
 unfold coresB at hk
 rw [Bool.and_eq_true,List.all_eq_true] at hk
 have q:=hk.2 _ (List.mem_of_getElem? hz)
 unfold coreB at q
 simp only [Bool.and_eq_true,decide_eq_true_eq] at q
 obtain ⟨q1,q2,q3,q4⟩:=q
 have cb:codeB code=true:=by
  unfold codesB at hc
  rw [Bool.and_eq_true,List.all_eq_true] at hc
  exact hc.2 _ (List.mem_of_getElem? ec)
 unfold codeB at cb
 simp only [Bool.and_eq_true,decide_eq_true_eq] at cb
 obtain ⟨c1,c2,-⟩:=cb
 unfold Plain.oneB at q3
 unfold Plain.inB at q2
 rw [decide_eq_true_eq] at q2 q3
 have hp:k.pc.toNat < code.length:=by omega
 obtain ⟨s,es⟩:∃ s,code[k.pc.toNat]? =some s:=⟨_,List.getElem?_eq_getElem hp⟩
 have ez:code.getD k.pc.toNat z5=s:=by rw [List.getD_eq_getElem?_getD,es];rfl
 have hs:=c1 _ hp
 rw [ez] at hs
 unfold trB at ht
 rw [Bool.and_eq_true,decide_eq_true_eq] at ht
 exact ⟨k,code,s,ek,ec,es,ez,q3.1,q3.2,c2.1,c2.2,q1,q4,q2.1,q2.2,hs,hm,ht.1⟩
theorem stepM_at {d:MD} {who:Nat} {k:KD} {code:List I5} {s:I5} (h:At8 d who k code s) (late:Int) (hr:k.st=0):stepM d who late=stepAt d who late k code.length s:=by
 have hw:who < d.cores.length:=by
  have:=h.hk
  rw [List.getElem?_eq_some_iff] at this
  exact this.1
 unfold stepM
 rw [if_pos (by omega),Int.toNat_natCast,h.hk,h.hc]
 show (if k.st=0 then _ else _)=_
 rw [if_pos hr,h.hz]
theorem stepM_over {d:MD} {who:Nat} {k:KD} {code:List I5} {s:I5} (h:At8 d who k code s) (late:Int) (hr:¬ k.st=0):stepM d who late=(d,3):=by
 have hw:who < d.cores.length:=by
  have:=h.hk
  rw [List.getElem?_eq_some_iff] at this
  exact this.1
 unfold stepM
 rw [if_pos (by omega),Int.toNat_natCast,h.hk,h.hc]
 show (if k.st=0 then _ else _)=_
 rw [if_neg hr]
theorem stepM_none {d:MD} {who:Int} (late:Int) (h:¬ (0≤who∧who < (d.cores.length:Int))):stepM d who late=(d,2):=by
 unfold stepM
 rw [if_neg h]
end
section
set_option linter.unusedSimpArgs false
set_option linter.unusedVariables false
set_option maxRecDepth 100000
section
open Go.RowKit
structure KV where
 d:KD
 r:Value
 v:Value
structure CV where
 l:List I5
 v:Value
def flatK:List KV→List Value
 | []=>[]
 | x::t=>[.int .i64 x.d.pc,x.r,x.v,.int .i64 x.d.st]++flatK t
theorem flatK_app:∀ (a b:List KV),flatK (a++b)=flatK a++flatK b
 | [],b=>rfl
 | x::r,b=>by simp [flatK,flatK_app r b]
theorem flatK_at:∀ (L:List KV) (i:Nat) (x:KV),L[i]? =some x→(flatK L)[i * 4]? =some (.int .i64 x.d.pc)∧(flatK L)[i * 4+1]? =some x.r∧(flatK L)[i * 4+2]? =some x.v∧(flatK L)[i * 4+3]? =some (.int .i64 x.d.st)
 | [],i,x,h=>by simp at h
 | y::r,0,x,h=>by
  simp at h
  subst h
  exact ⟨rfl,rfl,rfl,rfl⟩
 | y::r,i+1,x,h=>by
  have h':r[i]? =some x:=by simpa using h
  have e:=flatK_at r i x h'
  have e0:(i+1) * 4=i * 4+4:=by omega
  rw [e0]
  exact e
structure OwnK (w:World) (base:Nat) (v:Value) (L:List KV):Prop where
 row:w.ownsRow base 64 4 v L.length (flatK L)
 inn:∀ (i:Nat) (x:KV),L[i]? =some x→OwnN w base x.r x.d.regs∧OwnN w base x.v x.d.vw
 two:∀ (i:Nat) (x:KV) (k:Nat),L[i]? =some x→x.r.ownBlock=some k→x.v.ownBlock≠some k
 sep:∀ (i j:Nat) (x y:KV) (k:Nat),L[i]? =some x→L[j]? =some y→i≠j→(x.r.ownBlock=some k∨x.v.ownBlock=some k)→¬ (y.r.ownBlock=some k∨y.v.ownBlock=some k)
def OwnT5 (w:World) (base:Nat) (v:Value) (l:List I5):Prop:=w.ownsRow base 99 5 v l.length ((fl5 l).map (Value.int .i64))
structure OwnC (w:World) (base:Nat) (v:Value) (L:List CV):Prop where
 row:w.ownsRow base 94 1 v L.length (L.map CV.v)
 inn:∀ (i:Nat) (x:CV),L[i]? =some x→OwnT5 w base x.v x.l
 sep:∀ (i j:Nat) (x y:CV) (k:Nat),L[i]? =some x→L[j]? =some y→i≠j→x.v.ownBlock=some k→y.v.ownBlock≠some k
theorem OwnK.keep {w w':World} {base:Nat} {v:Value} {L:List KV} (h:OwnK w base v L) (hb:∀ k,base≤k→k < w.heap.size→w'.heap[k]? =w.heap[k]?):OwnK w' base v L:=
 ⟨ownKeep' h.row (fun k hk=>hb k (World.ownsRow.lt h.row _ hk).1 (World.ownsRow.lt h.row _ hk).2),fun i x hx=>⟨ownKeep' (h.inn i x hx).1 (fun k hk=>hb k (World.ownsRow.lt (h.inn i x hx).1 _ hk).1 (World.ownsRow.lt (h.inn i x hx).1 _ hk).2),ownKeep' (h.inn i x hx).2 (fun k hk=>hb k (World.ownsRow.lt (h.inn i x hx).2 _ hk).1 (World.ownsRow.lt (h.inn i x hx).2 _ hk).2)⟩,h.two,h.sep⟩
theorem OwnK.nil (w:World) (base:Nat):OwnK w base (.slice none 0 0) []:=⟨World.ownsRow_nil _ _ _ _,fun i x hx=>by simp at hx,fun i x k hx=>by simp at hx,fun i j x y k hx=>by simp at hx⟩
theorem OwnC.keep {w w':World} {base:Nat} {v:Value} {L:List CV} (h:OwnC w base v L) (hb:∀ k,base≤k→k < w.heap.size→w'.heap[k]? =w.heap[k]?):OwnC w' base v L:=
 ⟨ownKeep' h.row (fun k hk=>hb k (World.ownsRow.lt h.row _ hk).1 (World.ownsRow.lt h.row _ hk).2),fun i x hx=>ownKeep' (h.inn i x hx) (fun k hk=>hb k (World.ownsRow.lt (h.inn i x hx) _ hk).1 (World.ownsRow.lt (h.inn i x hx) _ hk).2),h.sep⟩
theorem OwnC.below {w w':World} {base:Nat} {v:Value} {L:List CV} (h:OwnC w base v L) (hb:Below w.heap.size w w'):OwnC w' base v L:=h.keep fun k _ hk=>hb.block k hk
theorem OwnC.nil (w:World) (base:Nat):OwnC w base (.slice none 0 0) []:=⟨World.ownsRow_nil _ _ _ _,fun i x hx=>by simp at hx,fun i j x y k hx=>by simp at hx⟩
theorem VO.nodup {w:World} {lo hi:Nat} {x:VS} {l:List Int} (h:VO w lo hi x l):(vAs x).Nodup:=by
 rcases h.c with e | ⟨g,o,hs,-⟩
 ·have:=h.n
  rw [e] at this
  simp at this
  simp [vAs,this]
 ·exact vAs_nodup hs
theorem push_get {α:Type} {L:List α} {y z:α} {i:Nat} (h:(L++[y])[i]? =some z):L[i]? =some z∨(i=L.length∧z=y):=by
 rcases getElem?_push h with h | ⟨h,e⟩
 ·exact .inl h
 ·exact .inr ⟨h,e⟩
/- one more behind a row -/
theorem OwnC.push {w w' : World} {base g cap : Nat} {v : Value} {L : List CV} {y : CV} (h : OwnC w base v L) (hy : OwnT5 w base y.v y.l)
  (hs:∀ (i:Nat) (z:CV) (k:Nat),L[i]? =some z→y.v.ownBlock=some k→z.v.ownBlock≠some k)
  (q1:w'.ownsRow base 94 1 (.slice (some ⟨g,0,none⟩) (L.length+1) cap) (L.length+1) (L.map CV.v++[y.v])) (hk:∀ k,k < w.heap.size→v.ownBlock≠some k→w'.heap[k]? =w.heap[k]?):
  OwnC w' base (.slice (some ⟨g,0,none⟩) (L.length+1) cap) (L++[y]):=by
 have kp:∀ (x:CV),OwnT5 w base x.v x.l→OwnT5 w' base x.v x.l:=fun x hx=>ownKeep' hx (fun k hk'=>hk k (World.ownsRow.lt hx _ hk').2 (ownType' hx h.row (by decide) hk'))
 refine ⟨by rw [List.map_append,List.length_append];exact q1,fun i x hx=>?_,fun i j x z k hx hz hne=>?_⟩
 ·rcases push_get hx with hx | ⟨-,rfl⟩
  ·exact kp _ (h.inn i x hx)
  ·exact kp _ hy
 ·rcases push_get hx with hx1 | ⟨e1,ex⟩<;>rcases push_get hz with hz1 | ⟨e2,ez⟩
  ·exact h.sep i j x z k hx1 hz1 hne
  ·rw [ez]
   intro a b
   exact hs i x k hx1 b a
  ·rw [ex]
   exact hs j z k hz1
  ·omega
theorem OwnK.push {w w' : World} {base g cap : Nat} {v : Value} {L : List KV} {y : KV} (h : OwnK w base v L) (hy : OwnN w base y.r y.d.regs ∧ OwnN w base y.v y.d.vw) (ht : ∀ k, y.r.ownBlock = some k → y.v.ownBlock ≠ some k)
  (hs:∀ (i:Nat) (z:KV) (k:Nat),L[i]? =some z→(y.r.ownBlock=some k∨y.v.ownBlock=some k)→¬ (z.r.ownBlock=some k∨z.v.ownBlock=some k))
  (q1:w'.ownsRow base 64 4 (.slice (some ⟨g,0,none⟩) (L.length+1) cap) (L.length+1) (flatK L++[.int .i64 y.d.pc,y.r,y.v,.int .i64 y.d.st])) (hk:∀ k,k < w.heap.size→v.ownBlock≠some k→w'.heap[k]? =w.heap[k]?):
  OwnK w' base (.slice (some ⟨g,0,none⟩) (L.length+1) cap) (L++[y]):=by
 have kp:∀ (u:Value) (l:List Int),OwnN w base u l→OwnN w' base u l:=fun u l hx=>ownKeep' hx (fun k hk'=>hk k (World.ownsRow.lt hx _ hk').2 (ownType' hx h.row (by decide) hk'))
 refine ⟨by rw [flatK_app,List.length_append];exact q1,fun i x hx=>?_,fun i x k hx=>?_,fun i j x z k hx hz hne=>?_⟩
 ·rcases push_get hx with hx | ⟨-,rfl⟩
  ·exact ⟨kp _ _ (h.inn i x hx).1,kp _ _ (h.inn i x hx).2⟩
  ·exact ⟨kp _ _ hy.1,kp _ _ hy.2⟩
 ·rcases push_get hx with hx | ⟨-,rfl⟩
  ·exact h.two i x k hx
  ·exact ht k
 ·rcases push_get hx with hx1 | ⟨e1,ex⟩<;>rcases push_get hz with hz1 | ⟨e2,ez⟩
  ·exact h.sep i j x z k hx1 hz1 hne
  ·rw [ez]
   intro a b
   exact hs i x k hx1 b a
  ·rw [ex]
   exact hs j z k hz1
  ·omega
/- rows that are owned, as rows of records -/
theorem vAs_blk {s:Option Addr} {n c e:Nat} {a:Addr} (ha:a∈vAs ((⟨s,n,c⟩:VS).wide e)) (hs:Somewhere s):(Value.slice s n c).ownBlock=some a.block:=by
 obtain ⟨i,-,rfl⟩:=mem_vAs.1 ha
 obtain ⟨g,o,rfl⟩:=hs
 rfl
theorem VO.own {w:World} {lo hi:Nat} {s:Option Addr} {n c e:Nat} {l:List Int} (h:VO w lo hi ((⟨s,n,c⟩:VS).wide e) l) {a:Addr} (ha:a∈vAs ((⟨s,n,c⟩:VS).wide e)):(Value.slice s n c).ownBlock=some a.block:=by
 rcases h.c with e | ⟨g,o,hs,-⟩
 ·have:=h.n
  rw [e] at this
  obtain ⟨i,hi',-⟩:=mem_vAs.1 ha
  rw [this] at hi'
  simp at hi'
 ·exact vAs_blk ha ⟨g,o,hs⟩
theorem OwnK.go {w:World} {base:Nat} {v:Value} {L:List KV} (h:OwnK w base v L):∃ s c R,v=.slice s L.length c∧GO w base w.heap.size s TK R (L.map fun x=>coreV x.d)∧∀ a∈gAs s TK.length R 0,v.ownBlock=some a.block∨∃ (i:Nat) (x:KV),L[i]? =some x∧(x.r.ownBlock=some a.block∨x.v.ownBlock=some a.block):=by
 rcases Nat.eq_zero_or_pos L.length with h0 | hpos
 ·obtain ⟨s,c,e⟩:=ownSl h.row
  rw [List.length_eq_zero_iff.1 h0]
  rw [h0] at e
  exact ⟨s,c,[],e,GO.nil _ _ _ _ _,fun a ha=>by simp [gAs] at ha⟩
 obtain ⟨g,cap,e,-⟩:=World.ownsRow.form h.row hpos
 have hlt:=World.ownsRow.lt h.row g (by rw [e];rfl)
 have hrow:=h.row
 rw [e] at hrow
 have step:∀ k,k≤L.length→∃ R,GO w base w.heap.size (some ⟨g,0,none⟩) TK R ((L.take k).map fun x=>coreV x.d)∧∀ a∈gAs (some ⟨g,0,none⟩) TK.length R 0,(∃ i j,i < k∧j < 4∧a=⟨g,i * 4+j,none⟩)∨∃ (i:Nat) (x:KV),i < k∧L[i]? =some x∧(x.r.ownBlock=some a.block∨x.v.ownBlock=some a.block):=by
  intro k
  induction k with
  | zero=>intro _;exact ⟨[],GO.nil _ _ _ _ _,fun a ha=>by simp [gAs] at ha⟩
  | succ k ih=>
   intro hk
   obtain ⟨R,hR,hA⟩:=ih (by omega)
   obtain ⟨x,hx⟩:∃ x,L[k]? =some x:=⟨_,List.getElem?_eq_getElem (by omega)⟩
   obtain ⟨i1,i2⟩:=h.inn k x hx
   obtain ⟨s,c,ev,vo⟩:=own_vo (size:=1) i1 (by simp)
   obtain ⟨s',c',ev',vo'⟩:=own_vo (size:=1) i2 (by simp)
   rw [wide_one] at vo vo'
   have tl:((L.take k).map fun x=>coreV x.d).length=k:=by simp;omega
   have ow:∀ a∈vAs (⟨s,x.d.regs.length,c⟩:VS),x.r.ownBlock=some a.block:=fun a ha=>by rw [ev];exact VO.own (e:=1) (by rw [wide_one];exact vo) (by rw [wide_one];exact ha)
   have ow':∀ a∈vAs (⟨s',x.d.vw.length,c'⟩:VS),x.v.ownBlock=some a.block:=fun a ha=>by rw [ev'];exact VO.own (e:=1) (by rw [wide_one];exact vo') (by rw [wide_one];exact ha)
   have far:∀ {u:Value} {l:List Int} {a:Addr},OwnN w base u l→u.ownBlock=some a.block→a.block≠g:=fun hu ha eb=>ownType' hu hrow (by decide) ha (by rw [eb];rfl)
   obtain ⟨fa,fb,fc,fd⟩:=flatK_at L k x hx
   have q:∀ j u,j < 4→(flatK L)[k * 4+j]? =some u→w.cell? ⟨g,k * 4+j,none⟩=some u:=fun j u hj hu=>by rw [World.ownsRow.cellAt hrow (k * 4+j) (by omega)];exact hu
   have ra:recAs (some ⟨g,0,none⟩) [.i,.r ⟨s,x.d.regs.length,c⟩ 1,.r ⟨s',x.d.vw.length,c'⟩ 1,.i] (k * TK.length)=⟨g,k * 4,none⟩::(vAs (⟨s,x.d.regs.length,c⟩:VS)++(vAs (⟨s',x.d.vw.length,c'⟩:VS)++[⟨g,k * 4+3,none⟩])):=by
    simp [recAs,fAs,wide_one,adr,TK]
   have et:(L.take (k+1)).map (fun x=>coreV x.d)=(L.take k).map (fun x=>coreV x.d)++[coreV x.d]:=by rw [List.take_add_one,hx];simp
   refine ⟨R++[[.i,.r ⟨s,x.d.regs.length,c⟩ 1,.r ⟨s',x.d.vw.length,c'⟩ 1,.i]],?_,fun a ha=>?_⟩
   ·rw [et]
    refine GO.push _ _ hR ⟨_,_,rfl⟩ rfl rfl (fun _ _ _ _ _ _ _ _ _ _ hf=>hf) (fun j f u hf hu=>?_) (fun x' e' hx' a ha g' o' hg'=>?_) ?_ (fun a ha ha'=>?_)
    ·rw [tl]
     match j,hf,hu with
     | 0,hf,hu=>
      simp at hf
      simp [coreV] at hu
      subst hf hu
      exact ⟨by simpa [adr,TK] using q 0 _ (by omega) fa,World.ownsRow.frozenAt hrow _,hlt.1,hlt.2⟩
     | 1,hf,hu=>
      simp at hf
      simp [coreV] at hu
      subst hf hu
      refine ⟨by have:=q 1 _ (by omega) fb;rw [ev] at this;simpa [adr,TK] using this,⟨hlt.1,hlt.2⟩,by rw [wide_one];exact vo⟩
     | 2,hf,hu=>
      simp at hf
      simp [coreV] at hu
      subst hf hu
      refine ⟨by have:=q 2 _ (by omega) fc;rw [ev'] at this;simpa [adr,TK] using this,⟨hlt.1,hlt.2⟩,by rw [wide_one];exact vo'⟩
     | 3,hf,hu=>
      simp at hf
      simp [coreV] at hu
      subst hf hu
      exact ⟨by simpa [adr,TK] using q 3 _ (by omega) fd,World.ownsRow.frozenAt hrow _,hlt.1,hlt.2⟩
    ·injection hg' with hg'
     injection hg' with hg'
     simp at hx'
     rw [← hg']
     rcases hx' with ⟨rfl,rfl⟩ | ⟨rfl,rfl⟩
     ·rw [wide_one] at ha
      exact far i1 (ow a ha)
     ·rw [wide_one] at ha
      exact far i2 (ow' a ha)
    ·rw [tl,ra]
     refine List.nodup_cons.2 ⟨fun hm=>?_,List.nodup_append.2 ⟨vo.nodup,List.nodup_append.2 ⟨vo'.nodup,by simp,fun a ha b hb eq=>?_⟩,fun a ha b hb eq=>?_⟩⟩
     ·rcases List.mem_append.1 hm with hm | hm
      ·exact far i1 (ow _ hm) rfl
      ·rcases List.mem_append.1 hm with hm | hm
       ·exact far i2 (ow' _ hm) rfl
       ·simp at hm
     ·simp at hb
      subst hb eq
      exact far i2 (ow' _ ha) rfl
     ·subst eq
      rcases List.mem_append.1 hb with hb | hb
      ·exact h.two k x _ hx (ow _ ha) (ow' _ hb)
      ·simp at hb
       subst hb
       exact far i1 (ow _ ha) rfl
    ·rw [tl,ra] at ha'
     have new:a.block=g∧(a=⟨g,k * 4,none⟩∨a=⟨g,k * 4+3,none⟩)∨(x.r.ownBlock=some a.block∨x.v.ownBlock=some a.block):=by
      rcases List.mem_cons.1 ha' with rfl | ha'
      ·exact .inl ⟨rfl,.inl rfl⟩
      ·rcases List.mem_append.1 ha' with ha' | ha'
       ·exact .inr (.inl (ow a ha'))
       ·rcases List.mem_append.1 ha' with ha' | ha'
        ·exact .inr (.inr (ow' a ha'))
        ·simp at ha'
         exact .inl ⟨by rw [ha'],.inr ha'⟩
     rcases hA a ha with ⟨i,j,hi,hj,e1⟩ | ⟨i,z,hi,hz,hb⟩
     ·rcases new with ⟨-,e2 | e2⟩ | hb
      ·rw [e1] at e2;simp at e2<;>omega
      ·rw [e1] at e2;simp at e2<;>omega
      ·rcases hb with hb | hb
       ·exact far i1 hb (by rw [e1])
       ·exact far i2 hb (by rw [e1])
     ·rcases new with ⟨e2,-⟩ | hb'
      ·obtain ⟨j1,j2⟩:=h.inn i z hz
       rcases hb with hb | hb
       ·exact far j1 hb e2
       ·exact far j2 hb e2
      ·exact h.sep i k z x _ hz hx (by omega) hb hb'
   ·rw [gAs_append] at ha
    rcases List.mem_append.1 ha with ha | ha
    ·rcases hA a ha with ⟨i,j,hi,hj,e1⟩ | ⟨i,z,hi,hz,hb⟩
     ·exact .inl ⟨i,j,by omega,hj,e1⟩
     ·exact .inr ⟨i,z,by omega,hz,hb⟩
    ·have hl:R.length=k:=by have:=hR.n;rw [tl] at this;exact this
     rw [hl] at ha
     simp only [gAs,List.append_nil,Nat.zero_add] at ha
     rw [ra] at ha
     rcases List.mem_cons.1 ha with e1 | ha
     ·exact .inl ⟨k,0,by omega,by omega,by rw [e1,Nat.add_zero]⟩
     ·rcases List.mem_append.1 ha with ha | ha
      ·exact .inr ⟨k,x,by omega,hx,.inl (ow a ha)⟩
      ·rcases List.mem_append.1 ha with ha | ha
       ·exact .inr ⟨k,x,by omega,hx,.inr (ow' a ha)⟩
       ·simp at ha
        exact .inl ⟨k,3,by omega,by omega,ha⟩
 obtain ⟨R,hR,hA⟩:=step L.length (Nat.le_refl _)
 rw [List.take_length] at hR
 refine ⟨some ⟨g,0,none⟩,cap,R,e,hR,fun a ha=>?_⟩
 rcases hA a ha with ⟨i,j,-,-,e1⟩ | ⟨i,z,-,hz,hb⟩
 ·left
  rw [e,e1]
  rfl
 ·exact .inr ⟨i,z,hz,hb⟩
end
section
open Go.RowKit
theorem steps_cell {w:World} {g off:Nat} {l:List I5} (hc:∀ i,i < l.length→At5 w g (off+i * 5) (l.getD i z5)) (i:Nat) (hi:i < l.length * 5):w.cell? ⟨g,off+i,none⟩=some (.int .i64 ((fl5 l).getD i 0)):=by
 have hk:i / 5 < l.length:=by omega
 have hx:l[i / 5]? =some (l.getD (i / 5) z5):=by rw [List.getD_eq_getElem?_getD,List.getElem?_eq_getElem hk];rfl
 obtain ⟨c0,c1,c2,c3,c4⟩:=hc (i / 5) hk
 obtain ⟨e0,e1,e2,e3,e4⟩:=fl5_at l (i / 5) _ hx
 rw [List.getD_eq_getElem?_getD]
 rcases (show i % 5=0∨i % 5=1∨i % 5=2∨i % 5=3∨i % 5=4 by omega) with h | h | h | h | h
 ·have e:i=i / 5 * 5:=by omega
  rw [e];rw [e0];exact c0
 ·have e:i=i / 5 * 5+1:=by omega
  rw [e,← Nat.add_assoc];rw [e1];exact c1
 ·have e:i=i / 5 * 5+2:=by omega
  rw [e,← Nat.add_assoc];rw [e2];exact c2
 ·have e:i=i / 5 * 5+3:=by omega
  rw [e,← Nat.add_assoc];rw [e3];exact c3
 ·have e:i=i / 5 * 5+4:=by omega
  rw [e,← Nat.add_assoc];rw [e4];exact c4
theorem infoSt:∃ i,Tryz.prog.info? 99=some i∧i.zero=some (.agg #[.int .i64 0,.int .i64 0,.int .i64 0,.int .i64 0,.int .i64 0])∧i.size=5∧i.bytes=40:=⟨_,rfl,rfl,rfl,rfl⟩
theorem infoCd:∃ i,Tryz.prog.info? 94=some i∧i.zero=some (.slice none 0 0)∧i.size=1∧i.bytes=24:=⟨_,rfl,rfl,rfl,rfl⟩
theorem infoKo:∃ i,Tryz.prog.info? 64=some i∧i.zero=some (.agg #[.int .i64 0,.slice none 0 0,.slice none 0 0,.int .i64 0])∧i.size=4∧i.bytes=64:=⟨_,rfl,rfl,rfl,rfl⟩
theorem run_append_zeroS (w : World) (base : Nat) (v : Value) (l : List I5) (hown : OwnT5 w base v l) (s : Option Addr) (c : Nat) :
  (Builtin.append_ #[94,94] 94 #[v,.slice s 0 c]).run Tryz.prog w=.ok v w:=by
 obtain ⟨i0,hi,hz0,hz1,hz2⟩:=infoSt
 rcases hown.2 with ⟨rfl,-⟩ | ⟨g,cap,cur,rfl,_,_,hnc,_⟩
 ·cases s<;>simp [Builtin.append_,run_underlying Tryz.underlying94,sizeOf,typeInfo,hi,Builtin.lenOf,Builtin.firstCells,loadCells,loadCellsFrom,storeCells]
 ·cases s<;>simp [Builtin.append_,run_underlying Tryz.underlying94,sizeOf,typeInfo,hi,Builtin.lenOf,Builtin.firstCells,hnc,storeCells,loadCells,loadCellsFrom,storeCells]
theorem wp_copyS {o : Oper} {a : Act} {w : World} {K : Act → World → Prop} {Q : Exit → Act → World → Prop} (s x : Operand) (hty : o.type = 94) (ho : o.op = .call { callee := .builtin .append, args := #[s, x], argTypes := #[94, 94] })
  (base:Nat) (sv:Option Addr) (cv:Nat) (hs:a.eval s=.slice sv 0 cv) (hown:OwnT5 w base (.slice sv 0 cv) []) (sx:Option Addr) (c:Nat) (l:List I5) {lo hi:Nat} (hx:a.eval x=.slice sx l.length c) (hr:InsR w lo hi sx l) (hn:l.length≤1073741824) (hbase:base≤w.heap.size)
  (h:∀ s' c' w',OwnT5 w' base (.slice s' l.length c') l→Copied w w' sv cv base l.length s' c'→K (a.put o.dst (.slice s' l.length c')) w'):Oper.wp Tryz.prog o a w K Q:=by
 rcases Nat.eq_zero_or_pos l.length with h0 | hl
 ·have e:=List.length_eq_zero_iff.1 h0
  subst e
  have hrun:=run_append_zeroS w base _ _ hown sx c
  unfold Oper.wp
  simp at hx
  simp [execOp,ho,resolve,invoke,builtin,hs,hx,hty,hrun,Result.andThen]
  exact h sv cv w hown ⟨fun _ _ _=>rfl,Below.refl _ _,fun k hk=>.inr hk⟩
 ·rcases hr with rfl | ⟨g,off,rfl,h1,h2,hc⟩
  ·simp at hl
  ·obtain ⟨i0,hi0,hz0,hz1,hz2⟩:=infoSt
   refine wp_append_lies w s x 94 ho base 99 i0 _ 5 40 Tryz.underlying94 hi0 hz0 hz1 hz2 rfl (by decide) _ 0 _ hs hown ⟨g,off,none⟩ l.length c ((fl5 l).map (Value.int .i64)) hx (by rw [List.length_map,fl5_len]) (fun j u hj=>?_) (fun u hu=>by obtain ⟨z,-,rfl⟩:=List.mem_map.1 hu;rfl) hl (by unfold maxLen;omega) (by omega) hbase _ rfl ?_
   ·rw [List.getElem?_map] at hj
    obtain ⟨z,hz,rfl⟩:=Option.map_eq_some_iff.1 hj
    have hj':=(List.getElem?_eq_some_iff.1 hz).1
    rw [fl5_len] at hj'
    have q:=steps_cell hc j hj'
    rw [List.getD_eq_getElem?_getD,hz] at q
    have ea:Addr.add ⟨g,off,none⟩ j=⟨g,off+j,none⟩:=by
     by_cases h:j=0
     ·subst h;rfl
     ·simp [Addr.add,h]
    rw [ea]
    exact q
   intro g' cap w' q1 q2 q3 q4
   have hb:Below base w w':=Below.grown (Below.refl _ _) q2 hbase (fun j hj=>(World.ownsRow.lt hown _ hj).1)
   rw [Nat.zero_add]
   rw [Nat.zero_add] at q1
   refine h _ _ w' (by show w'.ownsRow base 99 5 _ l.length ((fl5 l).map (Value.int .i64));exact q1) ⟨fun k hk hne=>q2.block k hk (fun e=>hne e.symm),hb,fun k hk=>?_⟩
   injection hk with hk
   rcases q3 with q3 | q3
   ·exact .inr (by rw [q3];exact congrArg some hk)
   ·exact .inl (by have:g'=k:=hk;omega)
theorem app_copyS {ops : Array Oper} {rest : List Oper} {o : Oper} {a : Act} {Q : Exit → Act → World → Prop} (hgd : o.guard = none) (s x : Operand) (hty : o.type = 94) (ho : o.op = .call { callee := .builtin .append, args := #[s, x], argTypes := #[94, 94] }) (w : World)
  (base:Nat) (sv:Option Addr) (cv:Nat) (hs:a.eval s=.slice sv 0 cv) (hown:OwnT5 w base (.slice sv 0 cv) []) (sx:Option Addr) (c:Nat) (l:List I5) {lo hi:Nat} (hx:a.eval x=.slice sx l.length c) (hr:InsR w lo hi sx l) (hn:l.length≤1073741824) (hbase:base≤w.heap.size)
  (h:∀ s' c' w',OwnT5 w' base (.slice s' l.length c') l→Copied w w' sv cv base l.length s' c'→wpList Tryz.prog ops Q rest (a.put o.dst (.slice s' l.length c')) w'):wpList Tryz.prog ops Q (o::rest) a w:=
 wpList_plain hgd fun _ hK=>wp_copyS s x hty ho base sv cv hs hown sx c l hx hr hn hbase fun s' c' w' h1 h2=>hK _ _ (h s' c' w' h1 h2)
/- one more row of steps -/
structure PushedC (w w':World) (base:Nat) (v:Value) (L:List CV) (y:CV) (g cap:Nat):Prop where
 own:OwnC w' base (.slice (some ⟨g,0,none⟩) (L.length+1) cap) (L++[y])
 low:Below base w w'
theorem app_rowC {ops : Array Oper} {rest : List Oper} {o : Oper} {a : Act} {Q : Exit → Act → World → Prop} (hgd : o.guard = none) (s x : Operand) (ho : o.op = .call { callee := .builtin .append, args := #[s, x], argTypes := #[33, 33] })
  (w:World) (base:Nat) (v:Value) (L:List CV) (y:CV) (hs:a.eval s=v) (hown:OwnC w base v L) (hy:OwnT5 w base y.v y.l) (h1:y.v.oneCell'=true) (hx:a.eval x=.slice (some ⟨w.heap.size,0,none⟩) 1 1) (hn:L.length≤1073741824) (hbase:base≤w.heap.size)
  (hsep:∀ (i:Nat) (z:CV) (k:Nat),L[i]? =some z→y.v.ownBlock=some k→z.v.ownBlock≠some k)
  (h:∀ g cap w',PushedC w w' base v L y g cap→wpList Tryz.prog ops Q rest (a.put o.dst (.slice (some ⟨g,0,none⟩) (L.length+1) cap)) w'):
  wpList Tryz.prog ops Q (o::rest) a (w.alloc (.cells #[y.v] 94)):=by
 obtain ⟨i0,hi,hz0,hz1,hz2⟩:=infoCd
 have h1':(w.alloc (.cells #[y.v] 94)).ownsRow base 94 1 v L.length (L.map CV.v):=ownKeep' hown.row (fun k hk=>Below.heap_alloc _ _ _ (World.ownsRow.lt hown.row _ hk).2)
 refine wpList_append_lies _ hgd s x 33 ho base 94 i0 _ 1 24 Tryz.underlying33 hi hz0 hz1 hz2 rfl (by decide) v L.length _ hs h1' ⟨w.heap.size,0,none⟩ 1 1 [y.v] hx rfl (fun j u hj=>?_) (fun u hu=>by simp at hu;subst hu;exact h1) (by decide) (by unfold maxLen;omega) (by omega) (by simp;omega) _ rfl ?_
 ·match j,hj with
  | 0,hj=>simpa [Addr.add,go_sem] using hj
  | j+1,hj=>simp at hj
 intro g cap w' q1 q2 q3 q4
 have hb:Below base w w':=Below.grown (((Below.refl _ _).alloc hbase _)) q2 (by simp;omega) (fun j hj=>(World.ownsRow.lt h1' _ hj).1)
 have hf:∀ k,k < w.heap.size→v.ownBlock≠some k→w'.heap[k]? =w.heap[k]? :=fun k hk hne=>(q2.block k (by simp;omega) (fun e=>hne e.symm)).trans (Below.heap_alloc _ _ _ hk)
 exact h g cap w' ⟨OwnC.push hown hy hsep q1 hf,hb⟩
end
section
open Go.RowKit
structure PushedK (w w':World) (base:Nat) (v:Value) (L:List KV) (y:KV) (g cap:Nat):Prop where
 own:OwnK w' base (.slice (some ⟨g,0,none⟩) (L.length+1) cap) (L++[y])
 low:Below base w w'
 far:∀ k,k < w.heap.size→v.ownBlock≠some k→w'.heap[k]? =w.heap[k]?
theorem wp_recK {o : Oper} {a : Act} {K : Act → World → Prop} {Q : Exit → Act → World → Prop} (s x : Operand) (ho : o.op = .call { callee := .builtin .append, args := #[s, x], argTypes := #[34, 34] })
  (w:World) (base:Nat) (v:Value) (L:List KV) (y:KV) (hs:a.eval s=v) (hown:OwnK w base v L) (hy:OwnN w base y.r y.d.regs∧OwnN w base y.v y.d.vw) (ht:∀ k,y.r.ownBlock=some k→y.v.ownBlock≠some k) (h1:y.r.oneCell'=true) (h2:y.v.oneCell'=true) (g0:Nat) (hg:g0=w.heap.size) (hx:a.eval x=.slice (some ⟨g0,0,none⟩) 1 1) (hn:L.length≤1073741824) (hbase:base≤w.heap.size)
  (hsep:∀ (i:Nat) (z:KV) (k:Nat),L[i]? =some z→(y.r.ownBlock=some k∨y.v.ownBlock=some k)→¬ (z.r.ownBlock=some k∨z.v.ownBlock=some k))
  (h:∀ g cap w',PushedK w w' base v L y g cap→K (a.put o.dst (.slice (some ⟨g,0,none⟩) (L.length+1) cap)) w'):
  Oper.wp Tryz.prog o a (w.alloc (.cells #[.int .i64 y.d.pc,y.r,y.v,.int .i64 y.d.st] 64)) K Q:=by
 subst hg
 obtain ⟨i0,hi,hz0,hz1,hz2⟩:=infoKo
 have h1':(w.alloc (.cells #[.int .i64 y.d.pc,y.r,y.v,.int .i64 y.d.st] 64)).ownsRow base 64 4 v L.length (flatK L):=ownKeep' hown.row (fun k hk=>Below.heap_alloc _ _ _ (World.ownsRow.lt hown.row _ hk).2)
 refine wp_append_lies _ s x 34 ho base 64 i0 _ 4 64 Tryz.underlying34 hi hz0 hz1 hz2 rfl (by decide) v L.length _ hs h1' ⟨w.heap.size,0,none⟩ 1 1 [.int .i64 y.d.pc,y.r,y.v,.int .i64 y.d.st] hx rfl (fun j u hj=>?_) (fun u hu=>by simp at hu;rcases hu with rfl | rfl | rfl | rfl;rfl;exact h1;exact h2;rfl) (by decide) (by unfold maxLen;omega) (by omega) (by simp;omega) _ rfl ?_
 ·match j,hj with
  | 0,hj=>simpa [Addr.add,go_sem] using hj
  | 1,hj=>simpa [Addr.add,go_sem] using hj
  | 2,hj=>simpa [Addr.add,go_sem] using hj
  | 3,hj=>simpa [Addr.add,go_sem] using hj
  | j+4,hj=>simp at hj
 intro g cap w' q1 q2 q3 q4
 have hb:Below base w w':=Below.grown (((Below.refl _ _).alloc hbase _)) q2 (by simp;omega) (fun j hj=>(World.ownsRow.lt h1' _ hj).1)
 have hf:∀ k,k < w.heap.size→v.ownBlock≠some k→w'.heap[k]? =w.heap[k]? :=fun k hk hne=>(q2.block k (by simp;omega) (fun e=>hne e.symm)).trans (Below.heap_alloc _ _ _ hk)
 exact h g cap w' ⟨OwnK.push hown hy ht hsep q1 hf,hb,hf⟩
theorem step_recK {ops : Array Oper} {o : Oper} {a : Act} {K : Act → World → Prop} {Q : Exit → Act → World → Prop} {E : Prop} (hgd : o.guard = none) (s x : Operand) (ho : o.op = .call { callee := .builtin .append, args := #[s, x], argTypes := #[34, 34] })
  (w:World) (base:Nat) (v:Value) (L:List KV) (y:KV) (hs:a.eval s=v) (hown:OwnK w base v L) (hy:OwnN w base y.r y.d.regs∧OwnN w base y.v y.d.vw) (ht:∀ k,y.r.ownBlock=some k→y.v.ownBlock≠some k) (h1:y.r.oneCell'=true) (h2:y.v.oneCell'=true) (g0:Nat) (hg:g0=w.heap.size) (hx:a.eval x=.slice (some ⟨g0,0,none⟩) 1 1) (hn:L.length≤1073741824) (hbase:base≤w.heap.size)
  (hsep:∀ (i:Nat) (z:KV) (k:Nat),L[i]? =some z→(y.r.ownBlock=some k∨y.v.ownBlock=some k)→¬ (z.r.ownBlock=some k∨z.v.ownBlock=some k))
  (h:∀ g cap w',PushedK w w' base v L y g cap→K (a.put o.dst (.slice (some ⟨g,0,none⟩) (L.length+1) cap)) w'):
  if Region.wanted o (yielded ops a.tmps)=true then Oper.wp Tryz.prog o a (w.alloc (.cells #[.int .i64 y.d.pc,y.r,y.v,.int .i64 y.d.st] 64)) K Q else E:=by
 have hw:Region.wanted o (yielded ops a.tmps)=true:=by simp [Region.wanted,hgd]
 rw [if_pos hw]
 exact wp_recK s x ho w base v L y hs hown hy ht h1 h2 g0 hg hx hn hbase hsep h
end
section
open Go.RowKit
set_option maxHeartbeats 1000000 in
theorem sameCodes_any (s : Option Addr) (c lo hi : Nat) (l : List (List I5)) (w : World) (h : CsR w lo hi s l) (hB : hi ≤ w.heap.size) (hl : l.length + szC l ≤ 1048576) :
  Calls Tryz.prog 62 #[.slice s l.length c] w fun e w'=>∃ v L,e=.returned v∧L.map CV.l=l∧OwnC w' w.heap.size v L∧Below w.heap.size w w':=by
 have H:Hid (CsR w lo hi s l):=h
 have HV:Hid (∀ (i:Nat) (x:List I5),l[i]? =some x→x.length≤1048576):=fun i x hx=>by have:=szC_at l i x hx;omega
 clear h
 go_enter Tryz.func62,Tryz.ntmps62
 go_wp2
 go_loopw [3,8] (fun v i wr=>∃ (k:Nat) (L:List CV),k≤l.length∧i=.int .i64 k∧L.length=k∧L.map CV.l=l.take k∧OwnC wr w.heap.size v L∧Below w.heap.size w wr) (fun _ i _=>l.length - (intOf i).toNat)
 case atStart=>exact ⟨0,[],Nat.zero_le _,rfl,rfl,rfl,OwnC.nil _ _,Below.refl _ _⟩
 case round=>
  obtain ⟨k,L,hk,rfl,hL,hM,ho,hb⟩:=hrel
  obtain ⟨sv,cv,ev⟩:=ownSl ho.row
  rw [hL] at ev
  subst ev
  have HO:Hid (OwnC wr w.heap.size (.slice sv k cv) L):=ho
  have HB:Hid (Below w.heap.size w wr):=hb
  have HL:Hid (L.length=k):=hL
  have HM:Hid (L.map CV.l=l.take k):=hM
  have hz:=hb.size
  clear ho hb hL hM
  by_cases hlt:k < l.length
  ·obtain ⟨x,hx⟩:∃ x,l[k]? =some x:=⟨_,List.getElem?_eq_getElem hlt⟩
   obtain ⟨g,o,s1,c1,e1,q1,q2,q3,q5⟩:=(H.out.keep (Keep.of_below HB.out hB)).at hx
   subst e1
   have hv:=HV.out k x hx
   have HI:Hid (InsR wr lo hi s1 x):=q5
   have HX:Hid (l[k]? =some x):=hx
   clear q5 hx
   have b0:(0:Int)≤(k:Int):=by omega
   have b1:(k:Int) < (l.length:Int):=by omega
   have zg:g < wr.heap.size:=by omega
   go_wp2_with (first | (at_builtin;refine app_copyS rfl _ _ rfl rfl wr wr.heap.size none 0 rfl (World.ownsRow_nil _ _ _ _) s1 c1 x (by rfl) (HI.out) (by omega) (Nat.le_refl _) ?_;intro s5 c5 w5 ho5 hc5;have O5:=(show Hid (OwnT5 w5 wr.heap.size (.slice s5 x.length c5) x) from ho5);have K5:=(show Hid (Below wr.heap.size wr w5) from hc5.low);have Z5:=(show Hid (∀ k,(Value.slice s5 x.length c5).ownBlock=some k→wr.heap.size≤k) from fun k hk=>(World.ownsRow.lt ho5 _ hk).1);clear ho5 hc5) | (at_builtin;refine app_rowC rfl _ _ rfl w5 w.heap.size (.slice sv k cv) L ⟨x,.slice s5 x.length c5⟩ rfl (HO.out.below K5.out) (ownLow' O5.out (by omega)) rfl (by rfl) (by have:=HL.out;omega) (by have:=K5.out.size;omega) (fun i z kk hz1 hk1 hk2=>by have h1:=Z5.out kk hk1;have h2:=(World.ownsRow.lt (HO.out.inn i z hz1) _ hk2).2;omega) ?_;intro g6 c6 w6 hp6;have P6:=(show Hid (OwnC w6 w.heap.size (.slice (some ⟨g6,0,none⟩) (L.length+1) c6) (L++[⟨x,.slice s5 x.length c5⟩])) from hp6.own);have K6:=(show Hid (Below w.heap.size w w6) from (HB.out.trans (K5.out.mono hz)).trans hp6.low);clear hp6))
   go_roundw
   case rel=>
    refine ⟨k+1,L++[⟨x,.slice s5 x.length c5⟩],by omega,by go_num,by simp [HL.out],?_,P6.out,K6.out⟩
    rw [List.map_append,HM.out,List.take_add_one,HX.out]
    rfl
   case measure=>simp [intOf];omega
  ·go_wp2
   go_ret
   have e:k=l.length:=by omega
   have hm:=HM.out
   rw [List.take_of_length_le (by omega)] at hm
   exact ⟨_,L,rfl,hm,HO.out,HB.out⟩
set_option maxHeartbeats 1000000 in
theorem l8Codes_any (s : Option Addr) (c lo hi : Nat) (l : List (List I5)) (w : World) (h : CsR w lo hi s l) (hB : hi ≤ w.heap.size) (hl : l.length + szC l ≤ 1048576) :
  Calls Tryz.prog 50 #[.slice s l.length c] w fun e w'=>∃ v L,e=.returned v∧L.map CV.l=l∧OwnC w' w.heap.size v L∧Below w.heap.size w w':=by
 have H:Hid (CsR w lo hi s l):=h
 have HV:Hid (∀ (i:Nat) (x:List I5),l[i]? =some x→x.length≤1048576):=fun i x hx=>by have:=szC_at l i x hx;omega
 clear h
 go_enter Tryz.func50,Tryz.ntmps50
 go_wp2
 go_loopw [3,4] (fun v i wr=>∃ (k:Nat) (L:List CV),k≤l.length∧i=.int .i64 k∧L.length=k∧L.map CV.l=l.take k∧OwnC wr w.heap.size v L∧Below w.heap.size w wr) (fun _ i _=>l.length - (intOf i).toNat)
 case atStart=>exact ⟨0,[],Nat.zero_le _,rfl,rfl,rfl,⟨World.ownsRow_lit w #[] 0 (Nat.le_refl _) (by unfold maxLen;omega) rfl,fun i x hx=>by simp at hx,fun i j x y k hx=>by simp at hx⟩,(Below.refl _ _).alloc (Nat.le_refl _) _⟩
 case round=>
  obtain ⟨k,L,hk,rfl,hL,hM,ho,hb⟩:=hrel
  obtain ⟨sv,cv,ev⟩:=ownSl ho.row
  rw [hL] at ev
  subst ev
  have HO:Hid (OwnC wr w.heap.size (.slice sv k cv) L):=ho
  have HB:Hid (Below w.heap.size w wr):=hb
  have HL:Hid (L.length=k):=hL
  have HM:Hid (L.map CV.l=l.take k):=hM
  have hz:=hb.size
  clear ho hb hL hM
  by_cases hlt:k < l.length
  ·obtain ⟨x,hx⟩:∃ x,l[k]? =some x:=⟨_,List.getElem?_eq_getElem hlt⟩
   obtain ⟨g,o,s1,c1,e1,q1,q2,q3,q5⟩:=(H.out.keep (Keep.of_below HB.out hB)).at hx
   subst e1
   have hv:=HV.out k x hx
   have HI:Hid (InsR wr lo hi s1 x):=q5
   have HX:Hid (l[k]? =some x):=hx
   clear q5 hx
   have b0:(0:Int)≤(k:Int):=by omega
   have b1:(k:Int) < (l.length:Int):=by omega
   have zg:g < wr.heap.size:=by omega
   go_wp2_with (first | (at_builtin;refine app_copyS rfl _ _ rfl rfl (wr.alloc (.cells #[] 99)) wr.heap.size (some ⟨wr.heap.size,0,none⟩) 0 rfl (World.ownsRow_lit wr #[] 0 (Nat.le_refl _) (by unfold maxLen;omega) rfl) s1 c1 x (by rfl) (HI.out.keep (Keep.of_below ((Below.refl wr.heap.size wr).alloc (Nat.le_refl _) _) (by omega))) (by omega) (by simp) ?_;intro s5 c5 w5 ho5 hc5;have O5:=(show Hid (OwnT5 w5 wr.heap.size (.slice s5 x.length c5) x) from ho5);have K5:=(show Hid (Below wr.heap.size wr w5) from ((Below.refl wr.heap.size wr).alloc (Nat.le_refl _) _).trans hc5.low);have Z5:=(show Hid (∀ k,(Value.slice s5 x.length c5).ownBlock=some k→wr.heap.size≤k) from fun k hk=>(World.ownsRow.lt ho5 _ hk).1);clear ho5 hc5) | (at_builtin;refine app_rowC rfl _ _ rfl w5 w.heap.size (.slice sv k cv) L ⟨x,.slice s5 x.length c5⟩ rfl (HO.out.below K5.out) (ownLow' O5.out (by omega)) rfl (by rfl) (by have:=HL.out;omega) (by have:=K5.out.size;omega) (fun i z kk hz1 hk1 hk2=>by have h1:=Z5.out kk hk1;have h2:=(World.ownsRow.lt (HO.out.inn i z hz1) _ hk2).2;omega) ?_;intro g6 c6 w6 hp6;have P6:=(show Hid (OwnC w6 w.heap.size (.slice (some ⟨g6,0,none⟩) (L.length+1) c6) (L++[⟨x,.slice s5 x.length c5⟩])) from hp6.own);have K6:=(show Hid (Below w.heap.size w w6) from (HB.out.trans (K5.out.mono hz)).trans hp6.low);clear hp6))
   go_roundw
   case rel=>
    refine ⟨k+1,L++[⟨x,.slice s5 x.length c5⟩],by omega,by go_num,by simp [HL.out],?_,P6.out,K6.out⟩
    rw [List.map_append,HM.out,List.take_add_one,HX.out]
    rfl
   case measure=>simp [intOf];omega
  ·go_wp2
   go_ret
   have e:k=l.length:=by omega
   have hm:=HM.out
   rw [List.take_of_length_le (by omega)] at hm
   exact ⟨_,L,rfl,hm,HO.out,HB.out⟩
end
end
section
set_option linter.unusedSimpArgs false
set_option linter.unusedVariables false
set_option maxRecDepth 100000
open Go.RowKit
theorem infoD:∃ i,Tryz.prog.info? 97=some i∧i.zero=some (.agg #[.int .i64 0,.int .i64 0])∧i.size=2∧i.bytes=16:=⟨_,rfl,rfl,rfl,rfl⟩
theorem run_append_zeroD (w : World) (base : Nat) (v : Value) (l : List ND) (hown : OwnD w base v l) (s : Option Addr) (c : Nat) :
  (Builtin.append_ #[38,38] 38 #[v,.slice s 0 c]).run Tryz.prog w=.ok v w:=by
 obtain ⟨i0,hi,hz0,hz1,hz2⟩:=infoD
 rcases hown.2 with ⟨rfl,-⟩ | ⟨g,cap,cur,rfl,_,_,hnc,_⟩
 ·cases s<;>simp [Builtin.append_,run_underlying Tryz.underlying38,sizeOf,typeInfo,hi,Builtin.lenOf,Builtin.firstCells,loadCells,loadCellsFrom,storeCells]
 ·cases s<;>simp [Builtin.append_,run_underlying Tryz.underlying38,sizeOf,typeInfo,hi,Builtin.lenOf,Builtin.firstCells,hnc,storeCells,loadCells,loadCellsFrom,storeCells]
theorem news_notes {w:World} {g o:Nat} {l:List ND} (hc:∀ (i:Nat) (n:ND),l[i]? =some n→NtR w g (o+i * 2) n):∀ j u,(flatN l)[j]? =some u→w.cell? (Addr.add ⟨g,o,none⟩ j)=some u:=by
 intro j u hu
 have hj:j < l.length * 2:=by have:=(List.getElem?_eq_some_iff.1 hu).1;rw [flatN_len] at this;exact this
 have ea:(Addr.add ⟨g,o,none⟩ j)=⟨g,o+j,none⟩:=by
  by_cases h:j=0
  ·subst h;rfl
  ·simp [Addr.add,h]
 have hi:j / 2 < l.length:=by omega
 have h1:=hc (j / 2) _ (List.getElem?_eq_getElem hi)
 obtain ⟨e0,e1⟩:=flatN_at l (j / 2) _ (List.getElem?_eq_getElem hi)
 rw [ea]
 rcases (show j=j / 2 * 2∨j=j / 2 * 2+1 by omega) with e | e
 ·rw [e,e0] at hu
  rw [e,← hu]
  exact h1.1
 ·rw [e,e1] at hu
  rw [e,← hu]
  exact h1.2
theorem flatN_one:∀ (l:List ND),∀ u∈flatN l,u.oneCell'=true
 | [],u,h=>by simp [flatN] at h
 | x::r,u,h=>by
  simp only [flatN,List.mem_append,List.mem_cons,List.not_mem_nil,or_false] at h
  rcases h with (rfl | rfl) | h
  ·rfl
  ·rfl
  ·exact flatN_one r u h
theorem wp_copyD {o : Oper} {a : Act} {w : World} {K : Act → World → Prop} {Q : Exit → Act → World → Prop} (s x : Operand) (hty : o.type = 38) (ho : o.op = .call { callee := .builtin .append, args := #[s, x], argTypes := #[38, 38] })
  (base:Nat) (sv:Option Addr) (cv:Nat) (hs:a.eval s=.slice sv 0 cv) (hown:OwnD w base (.slice sv 0 cv) []) (sx:Option Addr) (c:Nat) (l:List ND) {lo hi:Nat} (hx:a.eval x=.slice sx l.length c) (hr:NtsR w lo hi sx l) (hn:l.length≤1073741824) (hbase:base≤w.heap.size)
  (h:∀ s' c' w',OwnD w' base (.slice s' l.length c') l→Copied w w' sv cv base l.length s' c'→K (a.put o.dst (.slice s' l.length c')) w'):Oper.wp Tryz.prog o a w K Q:=by
 rcases Nat.eq_zero_or_pos l.length with h0 | hl
 ·have e:=List.length_eq_zero_iff.1 h0
  subst e
  have hrun:=run_append_zeroD w base _ _ hown sx c
  unfold Oper.wp
  simp at hx
  simp [execOp,ho,resolve,invoke,builtin,hs,hx,hty,hrun,Result.andThen]
  exact h sv cv w hown ⟨fun _ _ _=>rfl,Below.refl _ _,fun k hk=>.inr hk⟩
 ·rcases hr with rfl | ⟨g,off,rfl,h1,h2,hc⟩
  ·simp at hl
  ·obtain ⟨i0,hi0,hz0,hz1,hz2⟩:=infoD
   refine wp_append_lies w s x 38 ho base 97 i0 _ 2 16 Tryz.underlying38 hi0 hz0 hz1 hz2 rfl (by decide) _ 0 _ hs hown ⟨g,off,none⟩ l.length c (flatN l) hx (flatN_len l) (news_notes hc) (flatN_one l) hl (by unfold maxLen;omega) (by omega) hbase _ rfl ?_
   intro g' cap w' q1 q2 q3 q4
   have hb:Below base w w':=Below.grown (Below.refl _ _) q2 hbase (fun j hj=>(World.ownsRow.lt hown _ hj).1)
   rw [Nat.zero_add]
   rw [Nat.zero_add] at q1
   refine h _ _ w' q1 ⟨fun k hk hne=>q2.block k hk (fun e=>hne e.symm),hb,fun k hk=>?_⟩
   injection hk with hk
   rcases q3 with q3 | q3
   ·exact .inr (by rw [q3];exact congrArg some hk)
   ·exact .inl (by have:g'=k:=hk;omega)
theorem step_copyD {ops : Array Oper} {o : Oper} {a : Act} {K : Act → World → Prop} {Q : Exit → Act → World → Prop} {E : Prop} (hgd : o.guard = none) (s x : Operand) (hty : o.type = 38) (ho : o.op = .call { callee := .builtin .append, args := #[s, x], argTypes := #[38, 38] }) (w : World)
  (base:Nat) (sv:Option Addr) (cv:Nat) (hs:a.eval s=.slice sv 0 cv) (hown:OwnD w base (.slice sv 0 cv) []) (sx:Option Addr) (c:Nat) (l:List ND) {lo hi:Nat} (hx:a.eval x=.slice sx l.length c) (hr:NtsR w lo hi sx l) (hn:l.length≤1073741824) (hbase:base≤w.heap.size)
  (h:∀ s' c' w',OwnD w' base (.slice s' l.length c') l→Copied w w' sv cv base l.length s' c'→K (a.put o.dst (.slice s' l.length c')) w'):if Region.wanted o (yielded ops a.tmps)=true then Oper.wp Tryz.prog o a w K Q else E:=by
 have hw:Region.wanted o (yielded ops a.tmps)=true:=by simp [Region.wanted,hgd]
 rw [if_pos hw]
 exact wp_copyD s x hty ho base sv cv hs hown sx c l hx hr hn hbase h
theorem step_call {ops : Array Oper} {o : Oper} {a : Act} {w : World} {K : Act → World → Prop} {Q : Exit → Act → World → Prop} {F : Prop} (f : FuncId) (args : Array Value) (hgd : o.guard = none) (xs : Array Operand) (ats : Array TypeId) (ho : o.op = .call { callee := .value (.func f), args := xs, argTypes := ats }) (hx : xs.map a.eval = args)
  (hent:∀ (args:Array Value) (w:World),(callFunc f args).run Tryz.prog w=.ok (.enter f args) w) (h:Calls Tryz.prog f args w fun e w'=>∃ v,e=.returned v∧K (a.put o.dst v) w'):
  if Region.wanted o (yielded ops a.tmps)=true then Oper.wp Tryz.prog o a w K Q else F:=by
 have hw:Region.wanted o (yielded ops a.tmps)=true:=by simp [Region.wanted,hgd]
 rw [if_pos hw]
 obtain ⟨dst,op,ty,pos,after,guard⟩:=o
 simp only at ho
 subst ho
 unfold Oper.wp
 rw [execOp_call_go]
 have e:(#[]++xs.map a.eval++#[])=args:=by rw [hx];simp
 rw [e,hent,Oper.upon_enter]
 refine h.mono ?_
 rintro e w' ⟨v,rfl,hk⟩
 exact hk
theorem OwnC.low {w:World} {b b':Nat} {v:Value} {L:List CV} (h:OwnC w b v L) (hb:b'≤b):OwnC w b' v L:=⟨ownLow' h.row hb,fun i x hx=>ownLow' (h.inn i x hx) hb,h.sep⟩
theorem OwnK.low {w:World} {b b':Nat} {v:Value} {L:List KV} (h:OwnK w b v L) (hb:b'≤b):OwnK w b' v L:=⟨ownLow' h.row hb,fun i x hx=>⟨ownLow' (h.inn i x hx).1 hb,ownLow' (h.inn i x hx).2 hb⟩,h.two,h.sep⟩
/- a machine that runs: all its rows owned whole -/
structure MQ0 (w:World) (B:Nat) (vc vk vm vt:Value) (LC:List CV) (LK:List KV) (S:List RS) (d:MD):Prop where
 c:OwnC w B vc LC
 ec:LC.map CV.l=d.codes
 k:OwnK w B vk LK
 ek:LK.map KV.d=d.cores
 m:OW w B vm S d.mem
 t:OwnD w B vt d.tr
 sk:∀ (i:Nat) (x:KV) (q:Nat),LK[i]? =some x→(x.r.ownBlock=some q∨x.v.ownBlock=some q)→∀ a∈mAs S,a.block≠q
theorem MQ0.low {w:World} {B B':Nat} {vc vk vm vt:Value} {LC:List CV} {LK:List KV} {S:List RS} {d:MD} (h:MQ0 w B vc vk vm vt LC LK S d) (hb:B'≤B):MQ0 w B' vc vk vm vt LC LK S d:=⟨h.c.low hb,h.ec,h.k.low hb,h.ek,h.m.low hb,ownLow' h.t hb,h.sk⟩
theorem MQ0.keep {w w':World} {B:Nat} {vc vk vm vt:Value} {LC:List CV} {LK:List KV} {S:List RS} {d:MD} (h:MQ0 w B vc vk vm vt LC LK S d) (hb:∀ k,B≤k→k < w.heap.size→w'.heap[k]? =w.heap[k]?) (hs:w.heap.size≤w'.heap.size):MQ0 w' B vc vk vm vt LC LK S d:=
 ⟨h.c.keep hb,h.ec,h.k.keep hb,h.ek,h.m.kept hb hs,ownKeep' h.t (fun k hk=>hb k (World.ownsRow.lt h.t _ hk).1 (World.ownsRow.lt h.t _ hk).2),h.sk⟩
/- all blocks that a machine has are P -/
structure HitQ (P:Nat→Prop) (vc vk vm vt:Value) (LC:List CV) (LK:List KV) (S:List RS):Prop where
 c:∀ q,vc.ownBlock=some q→P q
 ci:∀ (i:Nat) (x:CV) (q:Nat),LC[i]? =some x→x.v.ownBlock=some q→P q
 k:∀ q,vk.ownBlock=some q→P q
 ki:∀ (i:Nat) (x:KV) (q:Nat),LK[i]? =some x→(x.r.ownBlock=some q∨x.v.ownBlock=some q)→P q
 m:∀ q,vm.ownBlock=some q→P q
 mi:∀ a∈mAs S,P a.block
 t:∀ q,vt.ownBlock=some q→P q
structure MQ (w:World) (B:Nat) (Hq:Nat→Prop) (vc vk vm vt:Value) (LC:List CV) (LK:List KV) (S:List RS) (d:MD):Prop extends MQ0 w B vc vk vm vt LC LK S d where
 hh:HitQ Hq vc vk vm vt LC LK S
 hn:∀ q,w.heap.size≤q→Hq q
theorem MQ.lt {w:World} {B b:Nat} {Hq:Nat→Prop} {vc vk vm vt:Value} {LC:List CV} {LK:List KV} {S:List RS} {d:MD} (h:MQ w B Hq vc vk vm vt LC LK S d) (hb:¬ Hq b):b < w.heap.size:=Classical.byContradiction fun e=>hb (h.hn b (by omega))
theorem MQ.keep {w w':World} {B:Nat} {Hq:Nat→Prop} {vc vk vm vt:Value} {LC:List CV} {LK:List KV} {S:List RS} {d:MD} (h:MQ w B Hq vc vk vm vt LC LK S d) (hb:∀ k,B≤k→k < w.heap.size→w'.heap[k]? =w.heap[k]?) (hs:w.heap.size≤w'.heap.size):MQ w' B Hq vc vk vm vt LC LK S d:=
 ⟨h.toMQ0.keep hb hs,h.hh,fun q hq=>h.hn q (Nat.le_trans hs hq)⟩
theorem X4.zero (w:World) (v0 v1 v2 v3:Value):X4 (w.alloc (.cells #[v0,v1,v2,v3] 40)) w.heap.size v0 v1 v2 v3∧∃ cs f,(w.alloc (.cells #[v0,v1,v2,v3] 40)).heap[w.heap.size]? =some (.cells cs 40 f):=by
 obtain ⟨W,hW,x,-,-⟩:=X4.new w v0 v1 v2 v3 40
 rw [hW]
 refine ⟨x,?_⟩
 rw [← hW]
 exact ⟨_,_,heap_alloc_new _ _⟩
/- a box of a machine's type is no block of its rows -/
def BxT (w:World) (b:Nat):Prop:=∃ cs f,w.heap[b]? =some (.cells cs 40 f)
theorem own_bx {w:World} {base size n b:Nat} {e:TypeId} {v:Value} {xs:List Value} (h:w.ownsRow base e size v n xs) (he:e≠40) (hb:BxT w b):v.ownBlock≠some b:=by
 obtain ⟨cs,f,c⟩:=hb
 intro hk
 rcases h.2 with ⟨rfl,-⟩ | ⟨g,cap,cur,rfl,-,c',-⟩
 ·cases hk
 ·simp only [Value.ownBlock,Option.some.injEq] at hk
  subst hk
  rw [c] at c'
  injection c' with c'
  injection c' with _ c'
  exact he c'.symm
theorem heap_set {w:World} {g k:Nat} {v:Value} {cur:Array Value} {e:TypeId} {fr:Nat×Nat} (h:w.heap[g]? =some (.cells cur e fr)):(w.setCell ⟨g,k,none⟩ v).heap[g]? =some (.cells (cur.setIfInBounds k v) e fr):=by
 simp only [World.setCell,Array.getElem?_modify,h]
 simp
theorem BxT.set {w:World} {b g o:Nat} {v:Value} (h:BxT w b):BxT (w.setCell ⟨g,o,none⟩ v) b:=by
 obtain ⟨cs,f,c⟩:=h
 by_cases e:b=g
 ·subst e
  exact ⟨_,f,heap_set c⟩
 ·exact ⟨cs,f,(Below.heap_setCell _ _ _ b e).trans c⟩
theorem OwnC.off {w w':World} {base b:Nat} {v:Value} {L:List CV} (h:OwnC w base v L) (ht:BxT w b) (hb:∀ k,k≠b→w'.heap[k]? =w.heap[k]?):OwnC w' base v L:=
 ⟨ownKeep' h.row (fun k hk=>hb k (fun e=>own_bx h.row (by decide) ht (by rw [hk,e]))),fun i x hx=>ownKeep' (h.inn i x hx) (fun k hk=>hb k (fun e=>own_bx (h.inn i x hx) (by decide) ht (by rw [hk,e]))),h.sep⟩
theorem OwnK.off {w w':World} {base b:Nat} {v:Value} {L:List KV} (h:OwnK w base v L) (ht:BxT w b) (hb:∀ k,k≠b→w'.heap[k]? =w.heap[k]?):OwnK w' base v L:=
 ⟨ownKeep' h.row (fun k hk=>hb k (fun e=>own_bx h.row (by decide) ht (by rw [hk,e]))),fun i x hx=>⟨ownKeep' (h.inn i x hx).1 (fun k hk=>hb k (fun e=>own_bx (h.inn i x hx).1 (by decide) ht (by rw [hk,e]))),ownKeep' (h.inn i x hx).2 (fun k hk=>hb k (fun e=>own_bx (h.inn i x hx).2 (by decide) ht (by rw [hk,e])))⟩,h.two,h.sep⟩
theorem OwnD.off {w w':World} {base b:Nat} {v:Value} {l:List ND} (h:OwnD w base v l) (ht:BxT w b) (hb:∀ k,k≠b→w'.heap[k]? =w.heap[k]?):OwnD w' base v l:=ownKeep' h (fun k hk=>hb k (fun e=>own_bx h (by decide) ht (by rw [hk,e])))
theorem OW.off {w w':World} {B b:Nat} {v:Value} {S:List RS} {m:List (List WD)} (h:OW w B v S m) (ht:BxT w b) (hb:∀ k,k≠b→w'.heap[k]? =w.heap[k]?) (hs:w.heap.size≤w'.heap.size):OW w' B v S m:=by
 refine ⟨h.n,ownKeep' h.row (fun k hk=>hb k (fun e=>own_bx h.row (by decide) ht (by rw [hk,e]))),fun i r l hr hl=>?_,h.d⟩
 have q:=h.r i r l hr hl
 refine q.kept (fun k hk=>hb k (fun e=>?_)) (fun a ha=>hb _ (fun e=>?_)) hs
 ·obtain ⟨cs,c⟩:=q.blkT hk
  obtain ⟨cs',f,c'⟩:=ht
  rw [e,c'] at c
  injection c with c
  injection c with _ c
  exact absurd c (by decide)
 ·obtain ⟨cs,f,c⟩:=q.vt a ha
  obtain ⟨cs',f',c'⟩:=ht
  rw [e,c'] at c
  injection c with c
  injection c with _ c
  exact absurd c (by decide)
end
end Go.Proofs.YtepfpbcjklaenaaGreat
