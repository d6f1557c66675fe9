/- Store and Swap's last step, in the program and in the specification. Conditions: what is right. -/
import Derived.Test.YtlbeploopclegaaGreatQG00
import Derived.Test.YtlbeploopclegaaGreatQG05
import Derived.Test.YtlbeploopclegaaGreatQG01
import Derived.Test.YtlbeploopclegaaGreatQG09
import Derived.Test.YtlbeploopclegaaGreatQG08
namespace Go.Proofs.YtlbeploopclegaaGreat
set_option linter.unusedSimpArgs false
set_option linter.unusedVariables false
set_option maxRecDepth 100000
open Go.RowKit
def toldL (l:List Int) (k n:Nat) (b:Bool):List Int:=if b=true then l.set k (n:Int) else (List.replicate 24 (0:Int)).set k (n:Int)
theorem OW.far {w X:World} {B g:Nat} {v:Value} {S:List RS} {m:List (List WD)} (h:OW w B v S m) (hne:∀ (i:Nat) (r:RS),S[i]? =some r→0 < r.vs.length) (hv:v.ownBlock≠some g) (hsep:∀ a∈mAs S,a.block≠g) (hk:∀ b,b < w.heap.size→b≠g→X.heap[b]? =w.heap[b]?) (hs:w.heap.size≤X.heap.size):OW X B v S m:=by
 refine ⟨h.n,ownKeep' h.row (fun b e=>hk b (World.ownsRow.lt h.row _ e).2 (fun e'=>hv (by rw [e,e']))),fun i r l hr hl=>?_,h.d⟩
 have q:=h.r i r l hr hl
 refine q.kept (fun b e=>hk b (World.ownsRow.lt q.own _ e).2 (fun e'=>?_)) (fun a ha=>hk _ (q.blk ha).2 ?_) hs
 ·obtain ⟨g1,cap1,f1,-⟩:=World.ownsRow.form q.own (hne i r hr)
  have s1:r.s=some ⟨g1,0,none⟩:=by unfold RS.val at f1;injection f1 with f1
  have b1:g1=b:=by unfold RS.val at e;rw [s1] at e;injection e
  exact hsep ⟨g1,0,none⟩ (mem_mAs.2 ⟨r,List.mem_of_getElem? hr,mem_rAs.2 (.inl ⟨0,hne i r hr,by rw [s1];rfl⟩)⟩) (by show g1=g;omega)
 ·obtain ⟨x',hx',hax⟩:=mem_vsA.1 ha
  exact hsep a (mem_mAs.2 ⟨r,List.mem_of_getElem? hr,mem_rAs.2 (.inr ⟨x',hx',hax⟩)⟩)
theorem OW.outNe {w:World} {B gO n c:Nat} {S:List RS} {m:List (List WD)} (h:OW w B (.slice (some ⟨gO,0,none⟩) n c) S m) {k:Nat} {r:RS} {l:List WD} (hk:S[k]? =some r) (hl:m[k]? =some l) {b:Nat} (e:r.val.ownBlock=some b):b≠gO:=fun e'=>by
 subst e'
 obtain ⟨cs,c1⟩:=(h.r k r l hk hl).blkT e
 obtain ⟨cs',ocs⟩:=rows_blkT h.row (k:=b) rfl
 rw [c1] at ocs
 injection ocs with ocs
 injection ocs with _ ocs
 exact absurd ocs (by decide)
theorem made_set (n k:Nat) (v:Value):((madeCells #[.int .i64 0] n).setIfInBounds k v).toList=(List.replicate n (.int .i64 0)).set k v:=by
 rw [Array.toList_setIfInBounds,toList_madeCells_one]
set_option maxHeartbeats 4000000 in
theorem store_any (gO cO B bv g cap : Nat) (S : List RS) (m : List (List WD)) (r : RS) (lr : List WD) (l : List Int) (k : Nat) (z : Int) (b : Bool) (w : World) (ho : OwnN w bv (.slice (some ⟨g, 0, none⟩) l.length cap) l) (hM : OW w B (.slice (some ⟨gO, 0, none⟩) m.length cO) S m) (hne : ∀ (i : Nat) (r : RS), S[i]? = some r → 0 < r.vs.length)
  (hk:S[k]? =some r) (hlm:m[k]? =some lr) (hl:l.length=24) (hkl:k < 24) (hml:m.length=24) (hlr:lr.length≤4000) (hBg:B≤g) (hsep:∀ a∈mAs S,a.block≠g):
  Calls Tryz.prog 170 #[.slice (some ⟨g,0,none⟩) l.length cap,.agg #[.slice (some ⟨gO,0,none⟩) m.length cO],.int .i64 k,.int .i64 z,.bool b] w fun e w'=>e=.returned (.tuple #[])∧∃ r',OwnN w' bv (.slice (some ⟨g,0,none⟩) l.length cap) (l.set k (lr.length:Int))∧OW w' B (.slice (some ⟨gO,0,none⟩) m.length cO) (S.set k r') (m.set k (lr++[⟨z,toldL l k lr.length b⟩]))∧Below B w w'∧(∀ a∈mAs (S.set k r'),a.block≠g)∧(∀ b,b < w.heap.size→b≠g→b≠gO→r.val.ownBlock≠some b→w'.heap[b]? =w.heap[b]?)∧(∀ a∈mAs (S.set k r'),(∃ a'∈mAs S,a'.block=a.block)∨w.heap.size≤a.block):=by
 have hg:=(World.ownsRow.lt ho g rfl).2
 have hrow:=hM.row
 rw [hM.n] at hrow
 have hgO:=World.ownsRow.lt hrow gO rfl
 have q:=hM.r k r lr hk hlm
 have hrv:r.vs.length=lr.length:=q.n
 have c1:w.cell? ⟨gO,k,none⟩=some (.slice r.s lr.length r.c):=by
  rw [World.ownsRow.cellAt hrow k (by omega),List.getElem?_map,hk]
  simp [RS.val,hrv]
 have f1:∀ j,w.frozen? ⟨gO,j,none⟩=false:=fun j=>World.ownsRow.frozenAt hrow j
 have e1:w.cell? ⟨g,k,none⟩=some (.int .i64 (l.getD k 0)):=ho.cell (by omega)
 have f2:∀ j,w.frozen? ⟨g,j,none⟩=false:=fun j=>World.ownsRow.frozenAt ho j
 have ngO:gO≠g:=by
  intro e
  obtain ⟨cs,h1⟩:=rows_blkT hrow (k:=gO) rfl
  rcases ho.2 with ⟨e2,-⟩ | ⟨g',cap',cur,e2,-,h2,-⟩
  ·cases e2
  ·injection e2 with e2;injection e2 with e2;injection e2 with e2
   subst e2
   rw [e,h2] at h1
   injection h1 with h1
   injection h1 with _ h1
   exact absurd h1 (by decide)
 have HO:Hid (OwnN w bv (.slice (some ⟨g,0,none⟩) l.length cap) l):=ho
 have HM:Hid (OW w B (.slice (some ⟨gO,0,none⟩) m.length cO) S m):=hM
 have HLL:Hid (l.length=24):=hl
 have HML:Hid (m.length=24):=hml
 have B0:(0:Int)≤(k:Int):=by omega
 have B1:(k:Int) < (l.length:Int):=by omega
 have B2:(k:Int) < (m.length:Int):=by omega
 have hl2:l.length≤1048577:=by omega
 have hmk:=mkView' l.length hl2
 have hmc:(madeCells #[.int .i64 0] l.length)[k]? =some (.int .i64 0):=by rw [← Array.getElem?_toList,toList_madeCells_one,List.getElem?_replicate,if_pos (by omega)]
 have valB:(Value.slice r.s lr.length r.c).ownBlock=r.val.ownBlock:=by unfold RS.val;cases r.s<;>rfl
 have RB:Hid (∀ b,r.val.ownBlock=some b→¬ b=w.heap.size):=fun b e=>by have:=(World.ownsRow.lt q.own _ e).2;omega
 clear ho hM hrow q hl hml
 go_enter Tryz.func170,Tryz.ntmps170
 cases b
 ·go_wp2_with fail
  obtain ⟨W0,hW0⟩:∃ W0,(w.setCell ⟨g,k,none⟩ (.int .i64 lr.length)).alloc (.cells #[.slice (some ⟨gO,0,none⟩) m.length cO] 35)=W0:=⟨_,rfl⟩
  have s0:W0.heap.size=w.heap.size+1:=by subst hW0;simp
  have k0:∀ b,b < w.heap.size→b≠g→W0.heap[b]? =w.heap[b]? :=fun b h1 h2=>by subst hW0;rw [Below.heap_alloc _ _ _ (by simpa using h1),Below.heap_setCell _ _ _ b h2]
  have x00:W0.cell? ⟨w.heap.size,0,none⟩=some (.slice (some ⟨gO,0,none⟩) m.length cO):=by subst hW0;simp [go_sem]
  have OV0:Hid (OwnN W0 bv (.slice (some ⟨g,0,none⟩) l.length cap) (l.set k (lr.length:Int))):=by
   subst hW0
   have p5:=(World.ownsRow.stored HO.out k (.int .i64 lr.length)).1
   show OwnN _ _ _ _
   refine OwnN.alloc ?_ _
   unfold OwnN
   rw [List.map_set,List.length_set]
   exact p5
  have HM0:Hid (OW W0 B (.slice (some ⟨gO,0,none⟩) m.length cO) S m):=HM.out.far hne (fun e=>ngO (by injection e)) hsep k0 (by omega)
  have c20:W0.cell? ⟨gO,k,none⟩=some (.slice r.s lr.length r.c):=(World.cell?_of_block (w:=w) (k0 gO (by omega) ngO)).trans c1
  have f30:∀ j,W0.frozen? ⟨gO,j,none⟩=false:=fun j=>(World.frozen?_of_block (w:=w) (k0 gO (by omega) ngO)).trans (f1 j)
  have KW:Hid (Below B w W0):=by
   subst hW0
   exact ((Below.refl _ _).setCell (p:=⟨g,k,none⟩) hBg _).alloc (by simp;omega) _
  obtain ⟨X,hX⟩:∃ X,W0.alloc (.cells ((madeCells #[.int .i64 0] l.length).setIfInBounds k (.int .i64 lr.length)) 3)=X:=⟨_,rfl⟩
  have KX:Hid (Below W0.heap.size W0 X):=by subst hX;exact (Below.refl _ _).alloc (Nat.le_refl _) _
  have TX:Hid (OwnN X W0.heap.size (.slice (some ⟨w.heap.size+1,0,none⟩) l.length l.length) ((List.replicate 24 (0:Int)).set k (lr.length:Int))):=by
   subst hX
   have h0:=World.ownsRow_lit (base:=W0.heap.size) (e:=3) (size:=1) W0 ((madeCells #[.int .i64 0] l.length).setIfInBounds k (.int .i64 lr.length)) l.length (Nat.le_refl _) (by unfold maxLen;omega) (by simp [size_madeCells])
   rw [made_set,s0] at h0
   show OwnN _ _ _ _
   unfold OwnN
   rw [List.map_set,List.map_replicate,List.length_set,List.length_replicate,s0,← HLL.out]
   exact h0
  rw [hW0,hX]
  have OVX:Hid (OwnN X bv (.slice (some ⟨g,0,none⟩) l.length cap) (l.set k (lr.length:Int))):=OV0.out.below KX.out
  have HK0:Hid (∀ b,b < w.heap.size→b≠g→W0.heap[b]? =w.heap[b]?):=k0
  clear hW0 hX k0 OV0
  have OWX:Hid (OW (X.drew.alloc (.cells #[.int .i64 z,.slice (some ⟨w.heap.size+1,0,none⟩) l.length l.length] 99)) B (.slice (some ⟨gO,0,none⟩) m.length cO) S m):=(HM0.out.below KX.out).below ((Below.drew (Below.refl _ _)).alloc (Nat.le_refl _) _)
  have c2:X.cell? ⟨gO,k,none⟩=some (.slice r.s lr.length r.c):=(KX.out.cell (p:=⟨gO,k,none⟩) (by show gO < _;omega)).trans c20
  have f3:∀ j,X.frozen? ⟨gO,j,none⟩=false:=fun j=>(KX.out.frozen (p:=⟨gO,j,none⟩) (by show gO < _;omega)).trans (f30 j)
  have x0:X.cell? ⟨w.heap.size,0,none⟩=some (.slice (some ⟨gO,0,none⟩) m.length cO):=(KX.out.cell (p:=⟨w.heap.size,0,none⟩) (by show w.heap.size < _;omega)).trans x00
  have zX:=KX.out.size
  have z1:w.heap.size < X.heap.size:=by omega
  have z2:gO < X.heap.size:=by omega
  have z3:B≤X.heap.size:=by omega
  go_region_law (refine step_rec rfl _ _ rfl (X.drew.alloc (.cells #[.int .i64 z,.slice (some ⟨w.heap.size+1,0,none⟩) l.length l.length] 99)) B (.slice r.s lr.length r.c) lr.length (flatV r.vs lr) rfl (by have:=(OWX.out.r k r lr hk hlm).own;unfold RS.val at this;rw [hrv] at this;exact this) X.heap.size (.int .i64 z) (.slice (some ⟨w.heap.size+1,0,none⟩) l.length l.length) rfl rfl rfl (by simp [go_sem]) (by simp [go_sem]) (by omega) (by simp;omega) ?_;intro g6 c6 w6 ho6 hg6 hn6 hl6;have oc:w6.heap[gO]? =X.heap[gO]? :=(hg6.block gO (by simp;omega) (fun e=>(OWX.out.outNe hk hlm (b:=gO) (by rw [← valB];exact e.symm)) rfl)).trans (show _=X.heap[gO]? from Below.heap_alloc X.drew _ _ z2);have ob:w6.heap[w.heap.size]? =X.heap[w.heap.size]? :=(hg6.block w.heap.size (by simp;omega) (fun e=>RB.out w.heap.size (by rw [← valB];exact e.symm) rfl)).trans (show _=X.heap[w.heap.size]? from Below.heap_alloc X.drew _ _ z1);have t0:=(World.cell?_of_block (w:=X) (a:=⟨w.heap.size,0,none⟩) ob).trans x0;have t1:=(World.cell?_of_block (w:=X) (a:=⟨gO,k,none⟩) oc).trans c2;have t2:∀ j,w6.frozen? ⟨gO,j,none⟩=false:=(fun j=>(World.frozen?_of_block (w:=X) (a:=⟨gO,j,none⟩) oc).trans (f3 j));have HO6:=(show Hid _ from ho6);have HG6:=(show Hid _ from hg6);have HN6:=(show Hid _ from hn6);clear ho6 hg6 hn6)
  all_goals
   go_end0
   obtain ⟨v1,v2,v3,v4⟩:=ownV TX.out (by rw [List.length_set];rw [List.length_replicate];exact HLL.out)
   have al:Below X.heap.size X (X.drew.alloc (.cells #[.int .i64 z,.slice (some ⟨w.heap.size+1,0,none⟩) l.length l.length] 99)):=(Below.drew (Below.refl _ _)).alloc (Nat.le_refl _) _
   have gr:∀ b,r.val.ownBlock=some b→b≠g:=fun b e e'=>by
    obtain ⟨g1,cap1,f1,-⟩:=World.ownsRow.form (HM.out.r k r lr hk hlm).own (hne k r hk)
    have s1:r.s=some ⟨g1,0,none⟩:=by unfold RS.val at f1;injection f1 with f1
    have b1:g1=b:=by unfold RS.val at e;rw [s1] at e;injection e
    exact hsep ⟨g1,0,none⟩ (mem_mAs.2 ⟨r,List.mem_of_getElem? hk,mem_rAs.2 (.inl ⟨0,hne k r hk,by rw [s1];rfl⟩)⟩) (by show g1=g;omega)
   refine ⟨rfl,⟨some ⟨g6,0,none⟩,c6,r.vs++[⟨some ⟨w.heap.size+1,0,none⟩,l.length,l.length⟩]⟩,?_,?_,?_,fun a ha=>?_,fun b h1 h2 h3 h4=>?_,fun a ha=>?_⟩
   ·refine ownKeep' OVX.out (fun b e=>?_)
    have e9:some g=some b:=e
    injection e9 with e9
    subst e9
    rw [Below.heap_setCell _ _ _ _ (show g≠gO from fun e=>ngO e.symm)]
    exact (HG6.out.block g (by simp;omega) (fun e=>gr g (by rw [← valB];exact e.symm) rfl)).trans (show _=X.heap[g]? from Below.heap_alloc X.drew _ _ (by show g < X.heap.size;omega))
   ·have hP:=HM0.out.setRow (w1:=X.drew.alloc (.cells #[.int .i64 z,.slice (some ⟨w.heap.size+1,0,none⟩) l.length l.length] 99)) (w2:=w6) (g:=g6) (cap:=c6) ⟨some ⟨w.heap.size+1,0,none⟩,l.length,l.length⟩ ⟨z,(List.replicate 24 (0:Int)).set k (lr.length:Int)⟩ (KX.out.trans (al.mono zX)) (by omega) hne hk hlm ((v1.keep (Keep.of_below al (Nat.le_refl _))).mono (Nat.le_refl _) al.size) (fun a ha=>by obtain ⟨cs,f,e⟩:=v2 a ha;exact ⟨cs,f,(al.block _ (v1.blk ha).2).trans e⟩) v3 (by rw [hrv];exact HO6.out) (by rw [← valB];exact HG6.out) (by rw [← valB];exact HN6.out)
    rw [hrv] at hP
    exact hP
   ·exact ((KW.out.trans (KX.out.mono (by omega))).trans (Below.grown (al.mono (by omega)) HG6.out (by simp;omega) (fun j hj=>(World.ownsRow.lt (OWX.out.r k r lr hk hlm).own j (by rw [← valB];exact hj)).1))).setCell (p:=⟨gO,k,none⟩) hgO.1 _
   ·obtain ⟨r1,hr1,har⟩:=mem_mAs.1 ha
    rcases List.mem_or_eq_of_mem_set hr1 with hr1 | hr1
    ·exact hsep a (mem_mAs.2 ⟨r1,hr1,har⟩)
    ·subst hr1
     rcases mem_rAs.1 har with ⟨i,hi',e⟩ | ⟨x',hx',hax⟩
     ·have eb:a.block=g6:=by rw [e];rfl
      rcases HN6.out with hn | hn
      ·have:=gr g6 (by rw [← valB];exact hn)
       omega
      ·simp at hn
       have hn2:X.heap.size+1≤g6:=hn
       omega
     ·rcases List.mem_append.1 hx' with hx' | hx'
      ·exact hsep a (mem_mAs.2 ⟨r,List.mem_of_getElem? hk,mem_rAs.2 (.inr ⟨x',hx',hax⟩)⟩)
      ·simp at hx'
       subst hx'
       have:=v4 a hax
       omega
   ·rw [Below.heap_setCell _ _ _ _ (show b≠gO from h3)]
    exact ((HG6.out.block b (by simp;omega) (fun e=>h4 (by rw [← valB];exact e.symm))).trans (show _=X.heap[b]? from Below.heap_alloc X.drew _ _ (by show b < X.heap.size;omega))).trans ((KX.out.block b (by omega)).trans (HK0.out b h1 h2))
   ·obtain ⟨r1,hr1,har⟩:=mem_mAs.1 ha
    rcases List.mem_or_eq_of_mem_set hr1 with hr1 | hr1
    ·exact .inl ⟨a,mem_mAs.2 ⟨r1,hr1,har⟩,rfl⟩
    ·subst hr1
     rcases mem_rAs.1 har with ⟨i,hi',e⟩ | ⟨x',hx',hax⟩
     ·have eb:a.block=g6:=by rw [e];rfl
      rcases HN6.out with hn | hn
      ·refine .inl ⟨adr r.s ((0+0) * 2),mem_mAs.2 ⟨r,List.mem_of_getElem? hk,mem_rAs.2 (.inl ⟨0,hne k r hk,rfl⟩)⟩,?_⟩
       rw [eb]
       cases hs:r.s with
       | none=>rw [hs] at hn;cases hn
       | some p=>rw [hs] at hn;injection hn
      ·simp at hn
       have hn2:X.heap.size+1≤g6:=hn
       exact .inr (by omega)
     ·rcases List.mem_append.1 hx' with hx' | hx'
      ·exact .inl ⟨a,mem_mAs.2 ⟨r,List.mem_of_getElem? hk,mem_rAs.2 (.inr ⟨x',hx',hax⟩)⟩,rfl⟩
      ·simp at hx'
       subst hx'
       have:=v4 a hax
       exact .inr (by omega)
 ·obtain ⟨W0,hW0⟩:∃ W0,(w.setCell ⟨g,k,none⟩ (.int .i64 lr.length)).alloc (.cells #[.slice (some ⟨gO,0,none⟩) m.length cO] 35)=W0:=⟨_,rfl⟩
  have s0:W0.heap.size=w.heap.size+1:=by subst hW0;simp
  have k0:∀ b,b < w.heap.size→b≠g→W0.heap[b]? =w.heap[b]? :=fun b h1 h2=>by subst hW0;rw [Below.heap_alloc _ _ _ (by simpa using h1),Below.heap_setCell _ _ _ b h2]
  have x00:W0.cell? ⟨w.heap.size,0,none⟩=some (.slice (some ⟨gO,0,none⟩) m.length cO):=by subst hW0;simp [go_sem]
  have OV0:Hid (OwnN W0 bv (.slice (some ⟨g,0,none⟩) l.length cap) (l.set k (lr.length:Int))):=by
   subst hW0
   have p5:=(World.ownsRow.stored HO.out k (.int .i64 lr.length)).1
   show OwnN _ _ _ _
   refine OwnN.alloc ?_ _
   unfold OwnN
   rw [List.map_set,List.length_set]
   exact p5
  have HM0:Hid (OW W0 B (.slice (some ⟨gO,0,none⟩) m.length cO) S m):=HM.out.far hne (fun e=>ngO (by injection e)) hsep k0 (by omega)
  have c20:W0.cell? ⟨gO,k,none⟩=some (.slice r.s lr.length r.c):=(World.cell?_of_block (w:=w) (k0 gO (by omega) ngO)).trans c1
  have f30:∀ j,W0.frozen? ⟨gO,j,none⟩=false:=fun j=>(World.frozen?_of_block (w:=w) (k0 gO (by omega) ngO)).trans (f1 j)
  have KW:Hid (Below B w W0):=by
   subst hW0
   exact ((Below.refl _ _).setCell (p:=⟨g,k,none⟩) hBg _).alloc (by simp;omega) _
  have Y0:Hid ((W0.alloc (.cells ((madeCells #[.int .i64 0] l.length).setIfInBounds k (.int .i64 lr.length)) 3)).heap[w.heap.size+1]? =some (.cells ((List.replicate l.length (Value.int .i64 0)).set k (.int .i64 lr.length)).toArray 3 (0,0))):=by
   show _=_
   rw [← made_set,Array.toArray_toList,← s0]
   exact heap_alloc_new _ _
  have YR:Hid (IntsR (W0.alloc (.cells ((madeCells #[.int .i64 0] l.length).setIfInBounds k (.int .i64 lr.length)) 3)) bv (w.heap.size+1) (some ⟨g,0,none⟩) (l.set k (lr.length:Int))):=by
   have h9:IntsR W0 bv W0.heap.size (some ⟨g,0,none⟩) (l.set k (lr.length:Int)):=ownN_intsR (c:=cap) (by rw [List.length_set];exact OV0.out)
   rw [← s0]
   exact h9.keep (Keep.of_below ((Below.refl _ _).alloc (Nat.le_refl _) _) (Nat.le_refl _))
  rw [← hW0] at Y0 YR
  have HW0:Hid ((w.setCell ⟨g,k,none⟩ (.int .i64 lr.length)).alloc (.cells #[.slice (some ⟨gO,0,none⟩) m.length cO] 35)=W0):=hW0
  clear hW0
  have hls:(l.set k (lr.length:Int)).length=l.length:=List.length_set
  go_wp2_with (refine app_copyV rfl _ _ 177 rfl _ (w.heap.size+1) 0 _ Y0.out (some ⟨w.heap.size+1,0,none⟩) (some ⟨g,0,none⟩) l.length l.length cap rfl rfl (l.set k (lr.length:Int)) hls (fun _=>rfl) YR.out (by simp) ?_;intro X hgX exX szX)
  rw [HW0.out] at exX szX
  have KX:Hid (Below W0.heap.size W0 X):=((Below.refl _ _).alloc (Nat.le_refl _) _).trans (exX.below (by omega) (by simp))
  have TX:Hid (OwnN X W0.heap.size (.slice (some ⟨w.heap.size+1,0,none⟩) l.length l.length) (l.set k (lr.length:Int))):=by
   show OwnN _ _ _ _
   have h9:=ownN_mk (w:=X) (base:=W0.heap.size) (g:=w.heap.size+1) (l:=l.set k (lr.length:Int)) (by omega) (by rw [hls];unfold maxLen;omega) hgX (by simp [splice,hls])
   rw [hls] at h9
   exact h9
  have OVX:Hid (OwnN X bv (.slice (some ⟨g,0,none⟩) l.length cap) (l.set k (lr.length:Int))):=OV0.out.below KX.out
  have HK0:Hid (∀ b,b < w.heap.size→b≠g→W0.heap[b]? =w.heap[b]?):=k0
  clear HW0 hgX exX szX k0 OV0 Y0 YR hls
  have OWX:Hid (OW (X.drew.alloc (.cells #[.int .i64 z,.slice (some ⟨w.heap.size+1,0,none⟩) l.length l.length] 99)) B (.slice (some ⟨gO,0,none⟩) m.length cO) S m):=(HM0.out.below KX.out).below ((Below.drew (Below.refl _ _)).alloc (Nat.le_refl _) _)
  have c2:X.cell? ⟨gO,k,none⟩=some (.slice r.s lr.length r.c):=(KX.out.cell (p:=⟨gO,k,none⟩) (by show gO < _;omega)).trans c20
  have f3:∀ j,X.frozen? ⟨gO,j,none⟩=false:=fun j=>(KX.out.frozen (p:=⟨gO,j,none⟩) (by show gO < _;omega)).trans (f30 j)
  have x0:X.cell? ⟨w.heap.size,0,none⟩=some (.slice (some ⟨gO,0,none⟩) m.length cO):=(KX.out.cell (p:=⟨w.heap.size,0,none⟩) (by show w.heap.size < _;omega)).trans x00
  have zX:=KX.out.size
  have z1:w.heap.size < X.heap.size:=by omega
  have z2:gO < X.heap.size:=by omega
  have z3:B≤X.heap.size:=by omega
  go_region_law (refine step_rec rfl _ _ rfl (X.drew.alloc (.cells #[.int .i64 z,.slice (some ⟨w.heap.size+1,0,none⟩) l.length l.length] 99)) B (.slice r.s lr.length r.c) lr.length (flatV r.vs lr) rfl (by have:=(OWX.out.r k r lr hk hlm).own;unfold RS.val at this;rw [hrv] at this;exact this) X.heap.size (.int .i64 z) (.slice (some ⟨w.heap.size+1,0,none⟩) l.length l.length) rfl rfl rfl (by simp [go_sem]) (by simp [go_sem]) (by omega) (by simp;omega) ?_;intro g6 c6 w6 ho6 hg6 hn6 hl6;have oc:w6.heap[gO]? =X.heap[gO]? :=(hg6.block gO (by simp;omega) (fun e=>(OWX.out.outNe hk hlm (b:=gO) (by rw [← valB];exact e.symm)) rfl)).trans (show _=X.heap[gO]? from Below.heap_alloc X.drew _ _ z2);have ob:w6.heap[w.heap.size]? =X.heap[w.heap.size]? :=(hg6.block w.heap.size (by simp;omega) (fun e=>RB.out w.heap.size (by rw [← valB];exact e.symm) rfl)).trans (show _=X.heap[w.heap.size]? from Below.heap_alloc X.drew _ _ z1);have t0:=(World.cell?_of_block (w:=X) (a:=⟨w.heap.size,0,none⟩) ob).trans x0;have t1:=(World.cell?_of_block (w:=X) (a:=⟨gO,k,none⟩) oc).trans c2;have t2:∀ j,w6.frozen? ⟨gO,j,none⟩=false:=(fun j=>(World.frozen?_of_block (w:=X) (a:=⟨gO,j,none⟩) oc).trans (f3 j));have HO6:=(show Hid _ from ho6);have HG6:=(show Hid _ from hg6);have HN6:=(show Hid _ from hn6);clear ho6 hg6 hn6)
  all_goals
   go_end0
   obtain ⟨v1,v2,v3,v4⟩:=ownV TX.out (by rw [List.length_set])
   have al:Below X.heap.size X (X.drew.alloc (.cells #[.int .i64 z,.slice (some ⟨w.heap.size+1,0,none⟩) l.length l.length] 99)):=(Below.drew (Below.refl _ _)).alloc (Nat.le_refl _) _
   have gr:∀ b,r.val.ownBlock=some b→b≠g:=fun b e e'=>by
    obtain ⟨g1,cap1,f1,-⟩:=World.ownsRow.form (HM.out.r k r lr hk hlm).own (hne k r hk)
    have s1:r.s=some ⟨g1,0,none⟩:=by unfold RS.val at f1;injection f1 with f1
    have b1:g1=b:=by unfold RS.val at e;rw [s1] at e;injection e
    exact hsep ⟨g1,0,none⟩ (mem_mAs.2 ⟨r,List.mem_of_getElem? hk,mem_rAs.2 (.inl ⟨0,hne k r hk,by rw [s1];rfl⟩)⟩) (by show g1=g;omega)
   refine ⟨rfl,⟨some ⟨g6,0,none⟩,c6,r.vs++[⟨some ⟨w.heap.size+1,0,none⟩,l.length,l.length⟩]⟩,?_,?_,?_,fun a ha=>?_,fun b h1 h2 h3 h4=>?_,fun a ha=>?_⟩
   ·refine ownKeep' OVX.out (fun b e=>?_)
    have e9:some g=some b:=e
    injection e9 with e9
    subst e9
    rw [Below.heap_setCell _ _ _ _ (show g≠gO from fun e=>ngO e.symm)]
    exact (HG6.out.block g (by simp;omega) (fun e=>gr g (by rw [← valB];exact e.symm) rfl)).trans (show _=X.heap[g]? from Below.heap_alloc X.drew _ _ (by show g < X.heap.size;omega))
   ·have hP:=HM0.out.setRow (w1:=X.drew.alloc (.cells #[.int .i64 z,.slice (some ⟨w.heap.size+1,0,none⟩) l.length l.length] 99)) (w2:=w6) (g:=g6) (cap:=c6) ⟨some ⟨w.heap.size+1,0,none⟩,l.length,l.length⟩ ⟨z,l.set k (lr.length:Int)⟩ (KX.out.trans (al.mono zX)) (by omega) hne hk hlm ((v1.keep (Keep.of_below al (Nat.le_refl _))).mono (Nat.le_refl _) al.size) (fun a ha=>by obtain ⟨cs,f,e⟩:=v2 a ha;exact ⟨cs,f,(al.block _ (v1.blk ha).2).trans e⟩) v3 (by rw [hrv];exact HO6.out) (by rw [← valB];exact HG6.out) (by rw [← valB];exact HN6.out)
    rw [hrv] at hP
    exact hP
   ·exact ((KW.out.trans (KX.out.mono (by omega))).trans (Below.grown (al.mono (by omega)) HG6.out (by simp;omega) (fun j hj=>(World.ownsRow.lt (OWX.out.r k r lr hk hlm).own j (by rw [← valB];exact hj)).1))).setCell (p:=⟨gO,k,none⟩) hgO.1 _
   ·obtain ⟨r1,hr1,har⟩:=mem_mAs.1 ha
    rcases List.mem_or_eq_of_mem_set hr1 with hr1 | hr1
    ·exact hsep a (mem_mAs.2 ⟨r1,hr1,har⟩)
    ·subst hr1
     rcases mem_rAs.1 har with ⟨i,hi',e⟩ | ⟨x',hx',hax⟩
     ·have eb:a.block=g6:=by rw [e];rfl
      rcases HN6.out with hn | hn
      ·have:=gr g6 (by rw [← valB];exact hn)
       omega
      ·simp at hn
       have hn2:X.heap.size+1≤g6:=hn
       omega
     ·rcases List.mem_append.1 hx' with hx' | hx'
      ·exact hsep a (mem_mAs.2 ⟨r,List.mem_of_getElem? hk,mem_rAs.2 (.inr ⟨x',hx',hax⟩)⟩)
      ·simp at hx'
       subst hx'
       have:=v4 a hax
       omega
   ·rw [Below.heap_setCell _ _ _ _ (show b≠gO from h3)]
    exact ((HG6.out.block b (by simp;omega) (fun e=>h4 (by rw [← valB];exact e.symm))).trans (show _=X.heap[b]? from Below.heap_alloc X.drew _ _ (by show b < X.heap.size;omega))).trans ((KX.out.block b (by omega)).trans (HK0.out b h1 h2))
   ·obtain ⟨r1,hr1,har⟩:=mem_mAs.1 ha
    rcases List.mem_or_eq_of_mem_set hr1 with hr1 | hr1
    ·exact .inl ⟨a,mem_mAs.2 ⟨r1,hr1,har⟩,rfl⟩
    ·subst hr1
     rcases mem_rAs.1 har with ⟨i,hi',e⟩ | ⟨x',hx',hax⟩
     ·have eb:a.block=g6:=by rw [e];rfl
      rcases HN6.out with hn | hn
      ·refine .inl ⟨adr r.s ((0+0) * 2),mem_mAs.2 ⟨r,List.mem_of_getElem? hk,mem_rAs.2 (.inl ⟨0,hne k r hk,rfl⟩)⟩,?_⟩
       rw [eb]
       cases hs:r.s with
       | none=>rw [hs] at hn;cases hn
       | some p=>rw [hs] at hn;injection hn
      ·simp at hn
       have hn2:X.heap.size+1≤g6:=hn
       exact .inr (by omega)
     ·rcases List.mem_append.1 hx' with hx' | hx'
      ·exact .inl ⟨a,mem_mAs.2 ⟨r,List.mem_of_getElem? hk,mem_rAs.2 (.inr ⟨x',hx',hax⟩)⟩,rfl⟩
      ·simp at hx'
       subst hx'
       have:=v4 a hax
       exact .inr (by omega)
end Go.Proofs.YtlbeploopclegaaGreat
