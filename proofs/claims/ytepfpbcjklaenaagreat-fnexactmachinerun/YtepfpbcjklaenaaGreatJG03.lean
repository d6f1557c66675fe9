/- How arguments of the laws read: a Step is five integers. No condition. How a list of steps that came in reads: each step is five integers. No condition. How rows of integers read as arguments of a law. No condition. How memories read as arguments of a law. No condition. -/
import Derived.Test.YtepfpbcjklaenaaGreatJG00
import Derived.Test.YtepfpbcjklaenaaGreatRows
import Derived.WalkKit
import Derived.ProofKit
import Derived.OpenShut
import Derived.ShutString
import Derived.ChangeOld
import Derived.Below
import Derived.Test.YtepfpbcjklaenaaGreatJG01
import Derived.Deep.Slices
import Derived.Test.YtepfpbcjklaenaaGreatJG02
namespace Go.Proofs.YtepfpbcjklaenaaGreat
section
set_option linter.unusedSimpArgs false
set_option linter.unusedVariables false
set_option maxRecDepth 100000
open Go.ChangeShapes Go.WideShapes Go.ChangeAt Go.RowKit
theorem cellsInt:Tryz.prog.cellsOf 3=1:=by kernel_rfl
theorem cellsStep:Tryz.prog.cellsOf 134=5:=by kernel_rfl
theorem list5 {α:Type} {cs:List α} (h:cs.length=5):∃ c0 c1 c2 c3 c4,cs=[c0,c1,c2,c3,c4]:=by
 match cs,h with
 | [c0,c1,c2,c3,c4],_=>exact ⟨c0,c1,c2,c3,c4,rfl⟩
theorem step_cells {H : Type} {enc : TypeId × Value → H} {w : World} {base : Nat} {spare : TypeId → Bool} {held : Bool} {fuel : Nat} {cs : List Value} {x : DataW H × List MemPlace}
  (h:DataW.trod enc Tryz.prog w base spare held fuel 134 cs=some x):
  ∃ o r a b n:Int,cs=[.int .i64 o,.int .i64 r,.int .i64 a,.int .i64 b,.int .i64 n]∧(Lit.int .i64 o).wf=true∧(Lit.int .i64 r).wf=true∧(Lit.int .i64 a).wf=true∧(Lit.int .i64 b).wf=true∧(Lit.int .i64 n).wf=true:=by
 obtain ⟨xs,n,_,rfl,hl,hlen,hf⟩:=DataW.trod_struct Tryz.underlying134 h
 rw [cellsStep] at hl
 obtain ⟨c0,c1,c2,c3,c4,rfl⟩:=list5 hl
 obtain ⟨y0,y1,y2,y3,y4,rfl⟩:=list5 (hlen.trans rfl)
 have g0:=hf 0 _ rfl
 have g1:=hf 1 _ rfl
 have g2:=hf 2 _ rfl
 have g3:=hf 3 _ rfl
 have g4:=hf 4 _ rfl
 simp [cellsInt] at g0 g1 g2 g3 g4
 obtain ⟨o,e0,-,w0⟩:=DataW.trod_int Tryz.underlying3 g0
 obtain ⟨r,e1,-,w1⟩:=DataW.trod_int Tryz.underlying3 g1
 obtain ⟨a,e2,-,w2⟩:=DataW.trod_int Tryz.underlying3 g2
 obtain ⟨b,e3,-,w3⟩:=DataW.trod_int Tryz.underlying3 g3
 obtain ⟨c,e4,-,w4⟩:=DataW.trod_int Tryz.underlying3 g4
 simp at e0 e1 e2 e3 e4
 subst e0 e1 e2 e3 e4
 exact ⟨o,r,a,b,c,rfl,w0,w1,w2,w3,w4⟩
end
section
set_option linter.unusedSimpArgs false
set_option linter.unusedVariables false
set_option maxRecDepth 100000
open Go.ChangeShapes Go.WideShapes Go.ChangeAt Go.RowKit Go.Deep
theorem cell_lt {w:World} {a:Addr} {v:Value} (h:w.cell? a=some v):a.block < w.heap.size:=by
 apply Classical.byContradiction
 intro hn
 have:w.heap[a.block]? =none:=by simp;omega
 simp [World.cell?,this] at h
theorem add_plain (g off n:Nat):(Addr.add ⟨g,off,none⟩ n)=⟨g,off+n,none⟩:=by
 by_cases h:n=0
 ·subst h;rfl
 ·simp [Addr.add,h]
theorem stepS_spot {H : Type} {enc : TypeId × Value → H} {w : World} {base : Nat} {spare : TypeId → Bool} {held : Bool} {n : Nat} {a : Addr} {cs : List Value} {x : DataW H × List MemPlace}
  (hc:w.cells? base (a.add (0 * 5)) 5=some cs) (h:DataW.trod enc Tryz.prog w base spare held n 134 cs=some x):
  a.spot=none∧a.block < w.heap.size:=by
 obtain ⟨o,r,b,c,d,rfl,-⟩:=step_cells h
 obtain ⟨-,-,hcell⟩:=World.cells?_some hc
 have c0:w.cell? a=some (.int .i64 o):=by simpa [Addr.add] using hcell 0 (by omega)
 exact ⟨World.cell?_spot c0,cell_lt c0⟩
theorem stepS_at {H : Type} {enc : TypeId × Value → H} {w : World} {base : Nat} {spare : TypeId → Bool} {held : Bool} {n g off i : Nat} {cs : List Value} {x : DataW H × List MemPlace}
  (hc:w.cells? base (Addr.add ⟨g,off,none⟩ (i * 5)) 5=some cs) (h:DataW.trod enc Tryz.prog w base spare held n 134 cs=some x):
  ∃ y:I5,At5 w g (off+i * 5) y:=by
 obtain ⟨o,r,b,c,d,rfl,-⟩:=step_cells h
 obtain ⟨-,-,hcell⟩:=World.cells?_some hc
 rw [add_plain] at hcell
 have c0:=hcell 0 (by omega)
 have c1:=hcell 1 (by omega)
 have c2:=hcell 2 (by omega)
 have c3:=hcell 3 (by omega)
 have c4:=hcell 4 (by omega)
 rw [add_plain] at c0 c1 c2 c3 c4
 exact ⟨⟨o,r,b,c,d⟩,c0,c1,c2,c3,c4⟩
end
section
set_option linter.unusedSimpArgs false
set_option linter.unusedVariables false
set_option maxRecDepth 100000
open Go.ChangeShapes Go.WideShapes Go.ChangeAt Go.RowKit Go.Deep
theorem list2 {α:Type} {cs:List α} (h:cs.length=2):∃ c0 c1,cs=[c0,c1]:=by
 match cs,h with
 | [c0,c1],_=>exact ⟨c0,c1,rfl⟩
theorem ownP:ownKnob Tryz.prog.godebug=none:=by kernel_rfl
theorem laidOutP:laidOutB Tryz.prog=true:=by kernel_rfl
theorem cellsSi:Tryz.prog.cellsOf 41=1:=by kernel_rfl
theorem ints_read {H : Type} {enc : TypeId × Value → H} {w : World} {base : Nat} {held : Bool} {fuel : Nat} {v : Value} {x : DataW H × List MemPlace}
  (hf:DataW.trod enc Tryz.prog w base (fun _=>true) held fuel 41 [v]=some x):
  ∃ (s:Option Addr) (c:Nat) (l:List Int),v=.slice s l.length c∧l.length≤maxLen∧IntsR w 0 w.heap.size s l:=by
 rcases open_ints Tryz.underlying41 Tryz.underlying3 cellsInt hf with ⟨hcs,_⟩ | ⟨a,len,cap,zs,hcs,_,hl,hm,hz,_,hcell,_⟩
 ·simp at hcs
  exact ⟨none,0,[],hcs,Nat.zero_le _,.inl rfl⟩
 ·simp at hcs hz
  by_cases h0:len=0
  ·subst h0
   exact ⟨some a,cap,[],hcs,Nat.zero_le _,.inl rfl⟩
  ·have c0:=hcell 0 (by omega)
   have c0':w.cell? a=some (.int .i64 (zs.getD 0 0)):=by simpa [Addr.add] using c0
   have hs:=World.cell?_spot c0'
   have hg:=cell_lt c0'
   obtain ⟨g,off,spot⟩:=a
   simp at hs
   subst hs
   refine ⟨some ⟨g,off,none⟩,cap,zs.take len,?_,?_,.inr ⟨g,off,rfl,Nat.zero_le _,hg,?_⟩⟩
   ·rw [hcs]
    congr 1
    simp
    omega
   ·simp
    omega
   ·intro i hi
    have hi':i < len:=by simp at hi;omega
    have:=hcell i (by omega)
    rw [add_plain] at this
    rw [this]
    simp [List.getD_eq_getElem?_getD,List.getElem?_take,hi']
end
section
set_option linter.unusedSimpArgs false
set_option linter.unusedVariables false
set_option maxRecDepth 100000
open Go.ChangeShapes Go.WideShapes Go.ChangeAt Go.RowKit Go.Deep
theorem cellsWrite:Tryz.prog.cellsOf 147=2:=by kernel_rfl
theorem cellsWS:Tryz.prog.cellsOf 124=1:=by kernel_rfl
theorem cellsWSS:Tryz.prog.cellsOf 24=1:=by kernel_rfl
theorem cellsMem:Tryz.prog.cellsOf 26=1:=by kernel_rfl
theorem list1 {α:Type} {cs:List α} (h:cs.length=1):∃ c0,cs=[c0]:=by
 match cs,h with
 | [c0],_=>exact ⟨c0,rfl⟩
theorem write_cells {H : Type} {enc : TypeId × Value → H} {w : World} {base : Nat} {held : Bool} {fuel : Nat} {cs : List Value} {x : DataW H × List MemPlace}
  (h:DataW.trod enc Tryz.prog w base (fun _=>true) held fuel 147 cs=some x):
  ∃ (t:WD) (s:Option Addr) (c:Nat),cs=[.int .i64 t.v,.slice s t.vw.length c]∧t.vw.length≤maxLen∧IntsR w 0 w.heap.size s t.vw:=by
 obtain ⟨xs,n,_,rfl,hl,hlen,hf⟩:=DataW.trod_struct Tryz.underlying147 h
 rw [cellsWrite] at hl
 obtain ⟨c0,c1,rfl⟩:=list2 hl
 obtain ⟨y0,y1,rfl⟩:=list2 (hlen.trans rfl)
 have g0:=hf 0 _ rfl
 have g1:=hf 1 _ rfl
 simp [cellsInt,cellsSi] at g0 g1
 obtain ⟨pc,e0,-,-⟩:=DataW.trod_int Tryz.underlying3 g0
 obtain ⟨s,c,l,rfl,ha,hA⟩:=ints_read g1
 simp at e0
 subst e0
 exact ⟨⟨pc,l⟩,s,c,rfl,ha,hA⟩
theorem writes_read {H : Type} {enc : TypeId × Value → H} {w : World} {base : Nat} {held : Bool} {fuel : Nat} {v : Value} {x : DataW H × List MemPlace}
  (hf:DataW.trod enc Tryz.prog w base (fun _=>true) held fuel 124 [v]=some x):
  ∃ (s:Option Addr) (c:Nat) (l:List WD),v=.slice s l.length c∧l.length≤maxLen∧(∀ (i:Nat) (t:WD),l[i]? =some t→t.vw.length≤maxLen)∧WsR w 0 w.heap.size s l:=by
 rcases open_slice Tryz.underlying124 hf with ⟨hcs,-⟩ | ⟨a,len,cap,m,n,D,Pl,hcs,-,hl,hm,hmm,-,hel⟩
 ·simp at hcs
  exact ⟨none,0,[],hcs,Nat.zero_le _,fun i t ht=>by simp at ht,.inl rfl⟩
 ·simp at hcs
  rw [cellsWrite] at hel
  have hle:len≤m:=by rw [hmm];split<;>omega
  by_cases h0:len=0
  ·subst h0
   exact ⟨some a,cap,[],hcs,Nat.zero_le _,fun i t ht=>by simp at ht,.inl rfl⟩
  ·obtain ⟨cs0,h1,h2⟩:=hel 0 (by omega)
   obtain ⟨t0,q0,r0,rfl,-,-⟩:=write_cells h2
   obtain ⟨-,-,hcell0⟩:=World.cells?_some h1
   have c0:w.cell? a=some (.int .i64 t0.v):=by simpa [Addr.add] using hcell0 0 (by omega)
   have hs:=World.cell?_spot c0
   have hg:=cell_lt c0
   obtain ⟨g,off,spot⟩:=a
   simp at hs
   subst hs
   obtain ⟨V,hV⟩:=@choose_lt WD ⟨t0⟩ len (fun i y=>WR w 0 w.heap.size g (off+i * 2) y∧y.vw.length≤maxLen) (fun i hi=>by
    obtain ⟨cs',h1,h2⟩:=hel i (by omega)
    obtain ⟨t,q,r,rfl,hm1,hI⟩:=write_cells h2
    obtain ⟨-,-,hcell⟩:=World.cells?_some h1
    rw [add_plain] at hcell
    have c0:=hcell 0 (by omega)
    have c1:=hcell 1 (by omega)
    rw [add_plain] at c0 c1
    exact ⟨t,⟨q,r,c0,c1,hI⟩,hm1⟩)
   have e:∀ i t,((List.range len).map V)[i]? =some t→i < len∧t=V i:=fun i t ht=>by
    rw [List.getElem?_map] at ht
    obtain ⟨y,hy,rfl⟩:=Option.map_eq_some_iff.1 ht
    have hi:i < len:=by have:=(List.getElem?_eq_some_iff.1 hy).1;simpa using this
    rw [List.getElem?_range hi] at hy
    injection hy with hy
    exact ⟨hi,by rw [hy]⟩
   refine ⟨some ⟨g,off,none⟩,cap,(List.range len).map V,by simp [hcs],by simp;omega,fun i t ht=>?_,.inr ⟨g,off,rfl,Nat.zero_le _,hg,fun i r hr=>?_⟩⟩
   ·obtain ⟨hi,rfl⟩:=e i t ht
    exact (hV i hi).2
   ·obtain ⟨hi,rfl⟩:=e i r hr
    exact (hV i hi).1
theorem mem_read {H : Type} {enc : TypeId × Value → H} {w : World} {base : Nat} {held : Bool} {fuel : Nat} {v : Value} {x : DataW H × List MemPlace}
  (hf:DataW.trod enc Tryz.prog w base (fun _=>true) held fuel 24 [v]=some x):
  ∃ (s:Option Addr) (c:Nat) (m:List (List WD)),v=.slice s m.length c∧MLens m∧MemR w 0 w.heap.size s m:=by
 rcases open_slice1 Tryz.underlying24 cellsWS hf with ⟨hcs,-⟩ | ⟨a,len,cap,m,n,V,D,Pl,hcs,-,hl,hm,hmm,-,hel⟩
 ·simp at hcs
  exact ⟨none,0,[],hcs,⟨Nat.zero_le _,fun i l h=>by simp at h,fun i l k x h=>by simp at h⟩,.inl rfl⟩
 ·simp at hcs
  have hle:len≤m:=by rw [hmm];split<;>omega
  by_cases h0:len=0
  ·subst h0
   exact ⟨some a,cap,[],hcs,⟨Nat.zero_le _,fun i l h=>by simp at h,fun i l k x h=>by simp at h⟩,.inl rfl⟩
  ·obtain ⟨c0,-⟩:=hel 0 (by omega)
   have c0':w.cell? a=some (V 0):=by simpa [Addr.add] using c0
   have hs:=World.cell?_spot c0'
   have hg:=cell_lt c0'
   obtain ⟨g,off,spot⟩:=a
   simp at hs
   subst hs
   obtain ⟨L,hL⟩:=@choose_lt (List WD) ⟨[]⟩ len (fun i l=>RwR w 0 w.heap.size g (off+i) l∧l.length≤maxLen∧∀ (k:Nat) (x:WD),l[k]? =some x→x.vw.length≤maxLen) (fun i hi=>by
    obtain ⟨h1,h2⟩:=hel i (by omega)
    obtain ⟨s,c,l,hv,hlm,hlv,hin⟩:=writes_read h2
    rw [add_plain,hv] at h1
    exact ⟨l,⟨s,c,h1,hin⟩,hlm,hlv⟩)
   have e:∀ i t,((List.range len).map L)[i]? =some t→i < len∧t=L i:=fun i t ht=>by
    rw [List.getElem?_map] at ht
    obtain ⟨y,hy,rfl⟩:=Option.map_eq_some_iff.1 ht
    have hi:i < len:=by have:=(List.getElem?_eq_some_iff.1 hy).1;simpa using this
    rw [List.getElem?_range hi] at hy
    injection hy with hy
    exact ⟨hi,by rw [hy]⟩
   refine ⟨some ⟨g,off,none⟩,cap,(List.range len).map L,by simp [hcs],⟨by simp;omega,fun i l hl=>?_,fun i l k x hl hx=>?_⟩,.inr ⟨g,off,rfl,Nat.zero_le _,hg,fun i l hl=>?_⟩⟩
   ·obtain ⟨hi,rfl⟩:=e i l hl
    exact (hL i hi).2.1
   ·obtain ⟨hi,rfl⟩:=e i l hl
    exact (hL i hi).2.2 k x hx
   ·obtain ⟨hi,rfl⟩:=e i l hl
    exact (hL i hi).1
end
end Go.Proofs.YtepfpbcjklaenaaGreat
