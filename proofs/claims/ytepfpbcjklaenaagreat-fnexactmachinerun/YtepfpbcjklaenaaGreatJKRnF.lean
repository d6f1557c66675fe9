/- How rows of picks read as arguments of a law, their numbers of 64 bits. No condition. -/
import Derived.Test.YtepfpbcjklaenaaGreatRows
import Derived.Test.YtepfpbcjklaenaaGreatJG04
import Derived.WalkKit
import Derived.ProofKit
import Derived.OpenShut
import Derived.ShutString
import Derived.ChangeOld
import Derived.ChangeVars
import Derived.Deep.Slices
namespace Go.Proofs.YtepfpbcjklaenaaGreat
set_option linter.unusedSimpArgs false
set_option linter.unusedVariables false
set_option maxRecDepth 100000
open Go.ChangeShapes Go.WideShapes Go.ChangeAt Go.RowKit Go.Deep
def I64 (n:Int):Prop:=-9223372036854775808≤n∧n≤9223372036854775807
def NtB (l:List ND):Prop:=∀ (i:Nat) (t:ND),l[i]? =some t→I64 t.who∧I64 t.v
theorem cellLt {w:World} {a:Addr} {v:Value} (h:w.cell? a=some v):a.block < w.heap.size:=by
 apply Classical.byContradiction
 intro hn
 have:w.heap[a.block]? =none:=by simp;omega
 simp [World.cell?,this] at h
theorem addPlain (g off n:Nat):(Addr.add ⟨g,off,none⟩ n)=⟨g,off+n,none⟩:=by
 by_cases h:n=0
 ·subst h;rfl
 ·simp [Addr.add,h]
theorem cellsIk:Tryz.prog.cellsOf 3=1:=by kernel_rfl
theorem i64_of_wf {n:Int} (h:(Lit.int .i64 n).wf=true):I64 n:=by
 have hmin:IntKind.i64.min=-9223372036854775808:=rfl
 have hmax:IntKind.i64.max=9223372036854775807:=rfl
 simp only [Lit.wf,Bool.and_eq_true,decide_eq_true_eq] at h
 unfold I64
 omega
theorem list2k {α:Type} {cs:List α} (h:cs.length=2):∃ c0 c1,cs=[c0,c1]:=by
 match cs,h with
 | [c0,c1],_=>exact ⟨c0,c1,rfl⟩
theorem cellsPk:Tryz.prog.cellsOf 72=2:=by kernel_rfl
theorem pk_cells {H : Type} {enc : TypeId × Value → H} {w : World} {base : Nat} {held : Bool} {fuel : Nat} {cs : List Value} {x : DataW H × List MemPlace}
  (h:DataW.trod enc Tryz.prog w base (fun _=>true) held fuel 72 cs=some x):∃ t:ND,cs=[.int .i64 t.who,.int .i64 t.v]∧I64 t.who∧I64 t.v:=by
 obtain ⟨xs,n,_,rfl,hl,hlen,hf⟩:=DataW.trod_struct Tryz.underlying72 h
 rw [cellsPk] at hl
 obtain ⟨c0,c1,rfl⟩:=list2k hl
 obtain ⟨y0,y1,rfl⟩:=list2k (hlen.trans rfl)
 have g0:=hf 0 _ rfl
 have g1:=hf 1 _ rfl
 simp [cellsIk] at g0 g1
 obtain ⟨a,e0,-,w0⟩:=DataW.trod_int Tryz.underlying3 g0
 obtain ⟨b,e1,-,w1⟩:=DataW.trod_int Tryz.underlying3 g1
 simp at e0 e1
 subst e0 e1
 exact ⟨⟨a,b⟩,rfl,i64_of_wf w0,i64_of_wf w1⟩
theorem pks_read {H : Type} {enc : TypeId × Value → H} {w : World} {base : Nat} {held : Bool} {fuel : Nat} {v : Value} {x : DataW H × List MemPlace}
  (hf:DataW.trod enc Tryz.prog w base (fun _=>true) held fuel 30 [v]=some x):
  ∃ (s:Option Addr) (c:Nat) (l:List ND),v=.slice s l.length c∧l.length≤maxLen∧NtsR w 0 w.heap.size s l∧NtB l:=by
 rcases open_slice Tryz.underlying30 hf with ⟨hcs,-⟩ | ⟨a,len,cap,m,n,D,Pl,hcs,-,hl,hm,hmm,-,hel⟩
 ·simp at hcs
  exact ⟨none,0,[],hcs,Nat.zero_le _,.inl rfl,fun i t h=>by simp at h⟩
 ·simp at hcs
  rw [cellsPk] at hel
  have hle:len≤m:=by rw [hmm];split<;>omega
  by_cases h0:len=0
  ·subst h0
   exact ⟨some a,cap,[],hcs,Nat.zero_le _,.inl rfl,fun i t h=>by simp at h⟩
  ·obtain ⟨cs0,h1,h2⟩:=hel 0 (by omega)
   obtain ⟨t0,rfl,-,-⟩:=pk_cells h2
   obtain ⟨-,-,hcell0⟩:=World.cells?_some h1
   have c0:w.cell? a=some (.int .i64 t0.who):=by simpa [Addr.add] using hcell0 0 (by omega)
   have hs:=World.cell?_spot c0
   have hg:=cellLt c0
   obtain ⟨g,off,spot⟩:=a
   simp at hs
   subst hs
   obtain ⟨V,hV⟩:=@choose_lt ND ⟨t0⟩ len (fun i y=>NtR w g (off+i * 2) y∧I64 y.who∧I64 y.v) (fun i hi=>by
    obtain ⟨cs',h1,h2⟩:=hel i (by omega)
    obtain ⟨t,rfl,b0,b1⟩:=pk_cells h2
    obtain ⟨-,-,hcell⟩:=World.cells?_some h1
    rw [addPlain] at hcell
    have c0:=hcell 0 (by omega)
    have c1:=hcell 1 (by omega)
    rw [addPlain] at c0 c1
    exact ⟨t,⟨c0,c1⟩,b0,b1⟩)
   have hat:∀ (i:Nat) (r:ND),((List.range len).map V)[i]? =some r→NtR w g (off+i * 2) r∧I64 r.who∧I64 r.v:=by
    intro i r hr
    rw [List.getElem?_map] at hr
    obtain ⟨y,hy,rfl⟩:=Option.map_eq_some_iff.1 hr
    have hi:i < len:=by have:=(List.getElem?_eq_some_iff.1 hy).1;simpa using this
    rw [List.getElem?_range hi] at hy
    injection hy with hy
    rw [← hy]
    exact hV i hi
   exact ⟨some ⟨g,off,none⟩,cap,(List.range len).map V,by simp [hcs],by simp;omega,.inr ⟨g,off,rfl,Nat.zero_le _,hg,fun i r hr=>(hat i r hr).1⟩,fun i r hr=>(hat i r hr).2⟩
theorem open_picks {H : Type} {enc : TypeId × Value → H} {w : World} {base b0 : Nat} {held : Bool} {k : Reach} {v : Value} {d : DataW H} {q : List MemPlace}
  (hv:Value.okWide Tryz.prog w k b0 30 v) (h:DataW.Trod enc Tryz.prog w base (fun _=>true) held 30 v d q):
  ∃ (s:Option Addr) (c:Nat) (l:List ND),v=.slice s l.length c∧l.length≤maxLen∧NtsR w 0 w.heap.size s l∧NtB l:=by
 obtain ⟨fuel,hf⟩:=h
 obtain ⟨s,n,c,rfl⟩:∃ s n c,v=.slice s n c:=okWide_slice Tryz.underlying30 hv
 exact pks_read hf
end Go.Proofs.YtepfpbcjklaenaaGreat
