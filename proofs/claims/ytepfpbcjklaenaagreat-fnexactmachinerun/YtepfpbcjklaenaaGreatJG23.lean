/- Append of one integer onto a row, and which blocks stay. Conditions: fewer than 2^40 of them. Runs of machines: what a row of picks does; a machine in its box with a row of codes beside it. No condition. MachineRun of the program, whatever the machine and the picks. Conditions: the machine is of at most 2^20 cells, late is a number of 64 bits. How much a step adds to a machine. No condition. -/
import Derived.Test.YtepfpbcjklaenaaGreatJG00
import Derived.Test.YtepfpbcjklaenaaGreatJG01
import Derived.Test.YtepfpbcjklaenaaGreatJG08
import Derived.Test.YtepfpbcjklaenaaGreatJG22
import Derived.Test.YtepfpbcjklaenaaGreatJG13
import Derived.Test.YtepfpbcjklaenaaGreatJG02
import Derived.Test.YtepfpbcjklaenaaGreatJG14
import Derived.Test.YtepfpbcjklaenaaGreatJG11
import Derived.Test.YtepfpbcjklaenaaGreatJG04
namespace Go.Proofs.YtepfpbcjklaenaaGreat
section
set_option linter.unusedSimpArgs false
set_option linter.unusedVariables false
set_option maxRecDepth 100000
open Go.RowKit
theorem app_one {ops : Array Oper} {rest : List Oper} {o : Oper} {a : Act} {Q : Exit → Act → World → Prop} (hgd : o.guard = none) (s x : Operand) (ho : o.op = .call { callee := .builtin .append, args := #[s, x], argTypes := #[41, 41] })
  (w:World) (z:Int) (base:Nat) (v:Value) (ls:List Int) (hs:a.eval s=v) (hown:OwnN w base v ls) (hx:a.eval x=.slice (some ⟨w.heap.size,0,none⟩) 1 1) (hn:ls.length≤1099511627775) (hbase:base≤w.heap.size)
  (h:∀ g cap w',OwnN w' base (.slice (some ⟨g,0,none⟩) (ls.length+1) cap) (ls++[z])→Below base w w'→(∀ k,k < w.heap.size→v.ownBlock≠some k→w'.heap[k]? =w.heap[k]? ∧k≠g)→wpList Tryz.prog ops Q rest (a.put o.dst (.slice (some ⟨g,0,none⟩) (ls.length+1) cap)) w'):
  wpList Tryz.prog ops Q (o::rest) a (w.alloc (.cells #[.int .i64 z] 3)):=by
 obtain ⟨i0,hi,hz0,hz1,hz2⟩:=infoInt
 have h1':=hown.alloc (.cells #[.int .i64 z] 3)
 refine wpList_append_lies _ hgd s x 41 ho base 3 i0 _ 1 8 Tryz.underlying41 hi hz0 hz1 hz2 rfl (by decide) v ls.length _ hs h1' ⟨w.heap.size,0,none⟩ 1 1 [.int .i64 z] hx rfl (newN1 w _) (fun u hu=>by simp at hu;subst hu;rfl) (by decide) (by unfold maxLen;omega) (by omega) (by simp;omega) _ rfl ?_
 intro g cap w' q1 q2 q3 q4
 have hb:Below base w w':=Below.grown (((Below.refl _ _).alloc hbase _)) q2 (by simp;omega) (fun j hj=>(World.ownsRow.lt h1' _ hj).1)
 refine h g cap w' ?_ hb (fun k hk hne=>?_)
 ·show w'.ownsRow base 3 1 _ (ls++[z]).length ((ls++[z]).map (Value.int .i64))
  rw [List.map_append,List.length_append]
  exact q1
 ·refine ⟨(q2.block k (by simp;omega) (fun e=>hne e.symm)).trans (Below.heap_alloc _ _ _ hk),?_⟩
  rintro rfl
  rcases q3 with q3 | q3
  ·exact hne q3
  ·simp at q3;omega
end
section
set_option linter.unusedSimpArgs false
set_option linter.unusedVariables false
set_option maxRecDepth 100000
open Go.RowKit
noncomputable def rnM:MD→List ND→MD
 | d,[]=>d
 | d,x::r=>rnM (stepM d x.who x.v).1 r
noncomputable def rnC:MD→List ND→List Int
 | _,[]=>[]
 | d,x::r=>(stepM d x.who x.v).2::rnC (stepM d x.who x.v).1 r
theorem rnM_app:∀ (l m:List ND) (d:MD),rnM d (l++m)=rnM (rnM d l) m
 | [],_,_=>rfl
 | x::r,m,d=>rnM_app r m (stepM d x.who x.v).1
theorem rnC_app:∀ (l m:List ND) (d:MD),rnC d (l++m)=rnC d l++rnC (rnM d l) m
 | [],_,_=>rfl
 | x::r,m,d=>by
  show _::rnC _ (r++m)=_
  rw [rnC_app r m]
  rfl
theorem rnC_len:∀ (l:List ND) (d:MD),(rnC d l).length=l.length
 | [],_=>rfl
 | x::r,d=>by
  show (rnC _ r).length+1=_
  rw [rnC_len r]
  rfl
theorem rnM_ok:∀ (l:List ND) {d:MD},machB d=true→machB (rnM d l)=true
 | [],_,h=>h
 | x::r,_,h=>rnM_ok r (stepM_ok x.who x.v h)
noncomputable def runMb (d:MD) (l:List ND):MD:=if l.length≤4000∧machB d=true then rnM d l else d
noncomputable def runMc (d:MD) (l:List ND):List Int:=if l.length≤4000∧machB d=true then rnC d l else []
theorem runMc_len (d:MD) (l:List ND):(runMc d l).length≤4000:=by
 unfold runMc
 split
 ·rename_i h
  rw [rnC_len]
  exact h.1
 ·exact Nat.zero_le _
theorem mach_mem {d:MD} (h:machB d=true):memB d.mem=true:=by
 unfold machB at h
 simp only [Bool.and_eq_true] at h
 exact h.2.2.2
/- behind an append beside it: the machine's blocks are as they were, and new ones are free again -/
theorem MQ.hop {w w':World} {B:Nat} {Hq:Nat→Prop} {vc vk vm vt:Value} {LC:List CV} {LK:List KV} {S:List RS} {d:MD} (h:MQ w B Hq vc vk vm vt LC LK S d) (hm:memB d.mem=true) (hb:∀ k,k < w.heap.size→Hq k→w'.heap[k]? =w.heap[k]?) (hs:w.heap.size≤w'.heap.size):MQ w' B (fun q=>(q < w.heap.size∧Hq q)∨w'.heap.size≤q) vc vk vm vt LC LK S d:=by
 have r:=h.re (w':=w) (fun _ _ _=>rfl) (Nat.le_refl _)
 have lt:∀ {e:TypeId} {size n:Nat} {u:Value} {xs:List Value},w.ownsRow B e size u n xs→(∀ q,u.ownBlock=some q→Hq q)→∀ q,u.ownBlock=some q→w'.heap[q]? =w.heap[q]? :=fun hu hh q e=>hb q (World.ownsRow.lt hu q e).2 (hh q e)
 refine ⟨⟨⟨ownKeep' h.c.row (lt h.c.row h.hh.c),fun i x hx=>ownKeep' (h.c.inn i x hx) (lt (h.c.inn i x hx) (fun q e=>h.hh.ci i x q hx e)),h.c.sep⟩,h.ec,⟨ownKeep' h.k.row (lt h.k.row h.hh.k),fun i x hx=>⟨ownKeep' (h.k.inn i x hx).1 (lt (h.k.inn i x hx).1 (fun q e=>h.hh.ki i x q hx (.inl e))),ownKeep' (h.k.inn i x hx).2 (lt (h.k.inn i x hx).2 (fun q e=>h.hh.ki i x q hx (.inr e)))⟩,h.k.two,h.k.sep⟩,h.ek,⟨h.m.n,ownKeep' h.m.row (lt h.m.row h.hh.m),fun i r l hr hl=>?_,h.m.d⟩,ownKeep' h.t (lt h.t h.hh.t),h.sk⟩,?_,fun q hq=>.inr hq⟩
 ·have q:=h.m.r i r l hr hl
  refine q.kept (lt q.own (h.rowH hr (h.m.some_ hm i r hr))) (fun a ha=>?_) hs
  have ha':a∈mAs S:=mem_mAs.2 ⟨r,List.mem_of_getElem? hr,mem_rAs.2 (.inr (mem_vsA.1 ha))⟩
  exact hb _ (h.m.memblk ha') (h.hh.mi a ha')
 ·have f:∀ q,q < w.heap.size→Hq q→(q < w.heap.size∧Hq q)∨w'.heap.size≤q:=fun q a b=>.inl ⟨a,b⟩
  have g:∀ q,q < w.heap.size∧Hq q∨w.heap.size≤q→q < w.heap.size→(q < w.heap.size∧Hq q)∨w'.heap.size≤q:=fun q a b=>a.elim (fun a=>.inl a) (fun a=>by omega)
  exact ⟨fun q e=>f q (World.ownsRow.lt h.c.row q e).2 (h.hh.c q e),fun i x q hx e=>f q (World.ownsRow.lt (h.c.inn i x hx) q e).2 (h.hh.ci i x q hx e),fun q e=>f q (World.ownsRow.lt h.k.row q e).2 (h.hh.k q e),fun i x q hx e=>f q (e.elim (fun e=>(World.ownsRow.lt (h.k.inn i x hx).1 q e).2) (fun e=>(World.ownsRow.lt (h.k.inn i x hx).2 q e).2)) (h.hh.ki i x q hx e),fun q e=>f q (World.ownsRow.lt h.m.row q e).2 (h.hh.m q e),fun a ha=>f _ (h.m.memblk ha) (h.hh.mi a ha),fun q e=>f q (World.ownsRow.lt h.t q e).2 (h.hh.t q e)⟩
/- a copy that a call has made -/
theorem MQ0.toH {w:World} {B:Nat} {vc vk vm vt:Value} {LC:List CV} {LK:List KV} {S:List RS} {d:MD} (h:MQ0 w B vc vk vm vt LC LK S d) (hB:B≤w.heap.size):MQ w B (fun q=>B≤q) vc vk vm vt LC LK S d:=
 ⟨h,⟨fun q e=>(World.ownsRow.lt h.c.row q e).1,fun i x q hx e=>(World.ownsRow.lt (h.c.inn i x hx) q e).1,fun q e=>(World.ownsRow.lt h.k.row q e).1,fun i x q hx e=>e.elim (fun e=>(World.ownsRow.lt (h.k.inn i x hx).1 q e).1) (fun e=>(World.ownsRow.lt (h.k.inn i x hx).2 q e).1),fun q e=>(World.ownsRow.lt h.m.row q e).1,fun a ha=>(h.m.om.blk ha).1,fun q e=>(World.ownsRow.lt h.t q e).1⟩,fun q hq=>Nat.le_trans hB hq⟩
/- a machine in its box, a row of codes beside it -/
structure RnJ (w V:World) (bm B:Nat) (vc vk vm:Value) (LC:List CV) (d:MD) (u:Value) (C:List Int):Prop where
 o:∃ (Hq:Nat→Prop) (vt:Value) (LK:List KV) (S:List RS),MQ V B Hq vc vk vm vt LC LK S d∧V.cell? ⟨bm,3,none⟩=some vt∧∀ q,u.ownBlock=some q→¬ Hq q
 c0:V.cell? ⟨bm,0,none⟩=some vc
 c1:V.cell? ⟨bm,1,none⟩=some vk
 c2:V.cell? ⟨bm,2,none⟩=some vm
 fm:∀ j,V.frozen? ⟨bm,j,none⟩=false
 bx:BxT V bm
 n:OwnN V B u C
 k:Below B w V
 m:B≤V.heap.size
theorem RnJ.keep {w V V':World} {bm B:Nat} {vc vk vm:Value} {LC:List CV} {d:MD} {u:Value} {C:List Int} (h:RnJ w V bm B vc vk vm LC d u C) (k:Below V.heap.size V V'):RnJ w V' bm B vc vk vm LC d u C:=by
 obtain ⟨Hq,vt,LK,S,q,c3,sp⟩:=h.o
 have z:=h.bx.lt
 exact ⟨⟨Hq,vt,LK,S,q.keep (fun b _ h1=>k.block b h1) k.size,(k.cell (p:=⟨bm,3,none⟩) z).trans c3,sp⟩,(k.cell (p:=⟨bm,0,none⟩) z).trans h.c0,(k.cell (p:=⟨bm,1,none⟩) z).trans h.c1,(k.cell (p:=⟨bm,2,none⟩) z).trans h.c2,fun j=>(k.frozen (p:=⟨bm,j,none⟩) z).trans (h.fm j),h.bx.same (k.block bm z),h.n.keep (fun b _ h1=>k.block b h1),h.k.trans (k.mono h.m),Nat.le_trans h.m k.size⟩
theorem intNM:(3:TypeId)≠40:=by decide
theorem RnJ.turn {w V V':World} {bm B:Nat} {Hq:Nat→Prop} {vc vk vm:Value} {LC:List CV} {d:MD} {u:Value} {C:List Int} {x:MD×Int} {e:Ending} (h:RnJ w V bm B vc vk vm LC d u C) (sp:∀ q,u.ownBlock=some q→¬ Hq q) (t:TurnQ V B Hq bm vc vk vm LC x e V'):RnJ w V' bm B vc vk vm LC x.1 u C:=by
 obtain ⟨-,vt',LK',S',q',c3',cj,fj,bx',b',fr⟩:=t
 exact ⟨⟨Hq,vt',LK',S',q',c3',sp⟩,(cj 0 (by omega)).trans h.c0,(cj 1 (by omega)).trans h.c1,(cj 2 (by omega)).trans h.c2,fj,bx',ownKeep' h.n (fun k e=>fr k (World.ownsRow.lt h.n k e).2 (sp k e) (fun e2=>own_bx h.n intNM h.bx (by rw [e,e2]))),h.k.trans b',Nat.le_trans h.m b'.size⟩
theorem NtsR.pk {w wr:World} {lo hi:Nat} {s:Option Addr} {l:List ND} (h:NtsR w lo hi s l) (hB:hi≤w.heap.size) (hb:Below w.heap.size w wr) {k:Nat} {x:ND} (hk:l[k]? =some x):∃ g o,s=some ⟨g,o,none⟩∧g < w.heap.size∧wr.cell? ⟨g,o+k * 2,none⟩=some (.int .i64 x.who)∧wr.cell? ⟨g,o+k * 2+1,none⟩=some (.int .i64 x.v):=by
 rcases h with h | ⟨g,o,hs,h1,h2,hc⟩
 ·subst h;simp at hk
 ·have cc:∀ j,wr.cell? ⟨g,j,none⟩=w.cell? ⟨g,j,none⟩:=fun j=>hb.cell (p:=⟨g,j,none⟩) (by show g < _;omega)
  exact ⟨g,o,hs,by omega,(cc _).trans (hc k x hk).1,(cc _).trans (hc k x hk).2⟩
theorem rn_take {d:MD} {l:List ND} {k:Nat} {x:ND} (hk:l[k]? =some x):rnM d (l.take (k+1))=(stepM (rnM d (l.take k)) x.who x.v).1∧rnC d (l.take (k+1))=rnC d (l.take k)++[(stepM (rnM d (l.take k)) x.who x.v).2]:=by
 rw [List.take_add_one,hk,Option.toList_some,rnM_app,rnC_app]
 exact ⟨rfl,rfl⟩
/- one code more -/
theorem RnJ.app {w V V':World} {bm B g cap n:Nat} {vc vk vm:Value} {LC:List CV} {d:MD} {u:Value} {C C':List Int} (h:RnJ w V bm B vc vk vm LC d u C) (hd:machB d=true) (hn:OwnN V' B (.slice (some ⟨g,0,none⟩) n cap) C') (kk:Below B V V') (f:∀ k,k < V.heap.size→u.ownBlock≠some k→V'.heap[k]? =V.heap[k]? ∧k≠g):RnJ w V' bm B vc vk vm LC d (.slice (some ⟨g,0,none⟩) n cap) C':=by
 obtain ⟨Hq,vt,LK,S,q,c3,sp⟩:=h.o
 have z:=h.bx.lt
 have eb:=(f bm z (own_bx h.n intNM h.bx)).1
 have hm:=mach_mem hd
 refine ⟨⟨_,vt,LK,S,q.hop hm (fun k hk hq=>(f k hk (fun e=>sp k e hq)).1) kk.size,(World.cell?_of_block eb).trans c3,fun b e hh=>?_⟩,(World.cell?_of_block eb).trans h.c0,(World.cell?_of_block eb).trans h.c1,(World.cell?_of_block eb).trans h.c2,fun j=>(World.frozen?_of_block eb).trans (h.fm j),h.bx.same eb,hn,h.k.trans kk,Nat.le_trans h.m kk.size⟩
 have hg:b < V'.heap.size:=(World.ownsRow.lt hn b e).2
 simp only [Value.ownBlock,Option.some.injEq] at e
 subst e
 rcases hh with ⟨h1,h2⟩ | h1
 ·by_cases hu:u.ownBlock=some g
  ·exact sp g hu h2
  ·exact (f g h1 hu).2 rfl
 ·omega
end
section
set_option linter.unusedSimpArgs false
set_option linter.unusedVariables false
set_option maxRecDepth 100000
open Go.RowKit
theorem hidN {p:Prop} (h:p):Hid p:=h
/- the argument's box and the answer's -/
structure Bc2 (V:World) (z:Nat) (m0 m1 m2 m3:Value):Prop where
 m0:V.cell? ⟨z,0,none⟩=some m0
 m1:V.cell? ⟨z,1,none⟩=some m1
 m2:V.cell? ⟨z,2,none⟩=some m2
 m3:V.cell? ⟨z,3,none⟩=some m3
 a0:V.cell? ⟨z+1,0,none⟩=some (.slice none 0 0)
 a1:V.cell? ⟨z+1,1,none⟩=some (.slice none 0 0)
 a2:V.cell? ⟨z+1,2,none⟩=some (.slice none 0 0)
 a3:V.cell? ⟨z+1,3,none⟩=some (.slice none 0 0)
 fa:∀ j,V.frozen? ⟨z+1,j,none⟩=false
 z:z+1 < V.heap.size
theorem Bc2.below {V V':World} {z:Nat} {m0 m1 m2 m3:Value} (h:Bc2 V z m0 m1 m2 m3) {n:Nat} (hb:Below n V V') (hn:z+1 < n):Bc2 V' z m0 m1 m2 m3:=by
 have c:∀ j,V'.cell? ⟨z,j,none⟩=V.cell? ⟨z,j,none⟩:=fun j=>hb.cell (p:=⟨z,j,none⟩) (by show z < n;omega)
 have c':∀ j,V'.cell? ⟨z+1,j,none⟩=V.cell? ⟨z+1,j,none⟩:=fun j=>hb.cell (p:=⟨z+1,j,none⟩) hn
 exact ⟨(c 0).trans h.m0,(c 1).trans h.m1,(c 2).trans h.m2,(c 3).trans h.m3,(c' 0).trans h.a0,(c' 1).trans h.a1,(c' 2).trans h.a2,(c' 3).trans h.a3,fun j=>(hb.frozen (p:=⟨z+1,j,none⟩) hn).trans (h.fa j),by have:=h.z;have:=hb.size;omega⟩
theorem bc2_new {w W:World} {m0 m1 m2 m3:Value} {T0 T2:TypeId} (hW:(w.alloc (.cells #[m0,m1,m2,m3] T0)).alloc (.cells #[.slice none 0 0,.slice none 0 0,.slice none 0 0,.slice none 0 0] T2)=W):Bc2 W w.heap.size m0 m1 m2 m3∧Below w.heap.size w W:=by
 subst hW
 exact ⟨⟨by simp [go_sem],by simp [go_sem],by simp [go_sem],by simp [go_sem],by simp [go_sem],by simp [go_sem],by simp [go_sem],by simp [go_sem],fun j=>by simp [go_sem],by simp⟩,((Below.refl _ _).alloc (Nat.le_refl _) _).alloc (by simp) _⟩
/- the answer put into its box -/
theorem Bc2.put {V:World} {z:Nat} {m0 m1 m2 m3 a b c d:Value} (h:Bc2 V z m0 m1 m2 m3):∃ Z,(((V.setCell ⟨z+1,0,none⟩ a).setCell ⟨z+1,1,none⟩ b).setCell ⟨z+1,2,none⟩ c).setCell ⟨z+1,3,none⟩ d=Z∧Z.cell? ⟨z+1,0,none⟩=some a∧Z.cell? ⟨z+1,1,none⟩=some b∧Z.cell? ⟨z+1,2,none⟩=some c∧Z.cell? ⟨z+1,3,none⟩=some d∧(∀ q,q≠z+1→Z.heap[q]? =V.heap[q]?)∧Z.heap.size=V.heap.size∧∀ (B:Nat) (A:World),Below B A V→B≤z+1→Below B A Z:=by
 refine ⟨_,rfl,?_,?_,?_,?_,fun q hq=>?_,?_,fun B A hb hz=>?_⟩
 ·simp [go_sem,h.a0,h.a1,h.a2,h.a3]
 ·simp [go_sem,h.a0,h.a1,h.a2,h.a3]
 ·simp [go_sem,h.a0,h.a1,h.a2,h.a3]
 ·simp [go_sem,h.a0,h.a1,h.a2,h.a3]
 ·exact (Below.heap_setCell _ ⟨z+1,_,none⟩ _ q hq).trans ((Below.heap_setCell _ ⟨z+1,_,none⟩ _ q hq).trans ((Below.heap_setCell _ ⟨z+1,_,none⟩ _ q hq).trans (Below.heap_setCell _ ⟨z+1,_,none⟩ _ q hq)))
 ·simp
 ·exact (((hb.setCell (p:=⟨z+1,_,none⟩) hz _).setCell (p:=⟨z+1,_,none⟩) hz _).setCell (p:=⟨z+1,_,none⟩) hz _).setCell (p:=⟨z+1,_,none⟩) hz _
/- what MachineRun answers -/
def RunQ8 (w:World) (D:MD) (C:List Int) (e:Ending) (w':World):Prop:=∃ (p:MP) (s:Option Addr) (c:Nat),e=.returned (.tuple #[.agg #[.slice p.s1 D.codes.length p.c1,.slice p.s2 D.cores.length p.c2,.slice p.s3 D.mem.length p.c3,.slice p.s4 D.tr.length p.c4],.slice s C.length c])∧MaO w' w.heap.size w'.heap.size p D∧OwnN w' w.heap.size (.slice s C.length c) C∧(∀ q,(Value.slice s C.length c).ownBlock=some q→∀ a∈p.as D,a.block≠q)∧Below w.heap.size w w'
theorem RnJ.fin {w V:World} {bm B:Nat} {vc vk vm:Value} {LC:List CV} {d:MD} {u:Value} {C:List Int} (h:RnJ w V bm B vc vk vm LC d u C):∃ (p:MP) (s:Option Addr) (c:Nat),u=.slice s C.length c∧V.cell? ⟨bm,0,none⟩=some (.slice p.s1 d.codes.length p.c1)∧V.cell? ⟨bm,1,none⟩=some (.slice p.s2 d.cores.length p.c2)∧V.cell? ⟨bm,2,none⟩=some (.slice p.s3 d.mem.length p.c3)∧V.cell? ⟨bm,3,none⟩=some (.slice p.s4 d.tr.length p.c4)∧MaO V B V.heap.size p d∧∀ q,u.ownBlock=some q→∀ a∈p.as d,a.block≠q:=by
 obtain ⟨Hq,vt,LK,S,q,c3,sp⟩:=h.o
 obtain ⟨p,e1,e2,e3,e4,mo,hp⟩:=q.mo
 subst e1 e2 e3 e4
 obtain ⟨s,c,e⟩:=h.n.sl
 exact ⟨p,s,c,e,h.c0,h.c1,h.c2,c3,mo,fun q' e a ha e2=>sp q' e (e2▸hp Hq q.hh a ha)⟩
theorem fin8 {w V Z : World} {z B : Nat} {m0 m1 m2 m3 : Value} {p : MP} {D : MD} {C : List Int} {s : Option Addr} {c : Nat} (hz : z = w.heap.size) (hb : Bc2 V z m0 m1 m2 m3) (hB : z + 1 < B) (mo : MaO V B V.heap.size p D) (hn : OwnN V B (.slice s C.length c) C) (sp : ∀ q, (Value.slice s C.length c).ownBlock = some q → ∀ a ∈ p.as D, a.block ≠ q) (hk : Below w.heap.size w V) (fz : ∀ q, q ≠ z + 1 → Z.heap[q]? = V.heap[q]?) (sz : Z.heap.size = V.heap.size) (bz : ∀ (B : Nat) (A : World), Below B A V → B ≤ z + 1 → Below B A Z) :
  RunQ8 w D C (.returned (.tuple #[.agg #[.slice p.s1 D.codes.length p.c1,.slice p.s2 D.cores.length p.c2,.slice p.s3 D.mem.length p.c3,.slice p.s4 D.tr.length p.c4],.slice s C.length c])) Z:=by
 subst hz
 exact ⟨p,s,c,rfl,(mo.keep (fun k h1 _=>fz k (by omega))).mono (by omega) (by omega),ownLow' (ownKeep' hn (fun k e=>fz k (by have:=(World.ownsRow.lt hn k e).1;omega))) (by omega),sp,bz _ _ hk (by omega)⟩
set_option maxRecDepth 100000 in
set_option maxHeartbeats 8000000 in
theorem implMRun_any (s1 s2 s3 s4 s5 : Option Addr) (c1 c2 c3 c4 c5 lo hi lo' hi' : Nat) (d : MD) (l : List ND) (w : World) (h : MaR w lo hi s1 s2 s3 s4 d) (h' : NtsR w lo' hi' s5 l) (hB : hi ≤ w.heap.size) (hB' : hi' ≤ w.heap.size) (hf : MaSz d ≤ 1048576) (hl : l.length ≤ 1048576) (hlate : ∀ x ∈ l, x.v ≤ 9223372036854775807) :
  Calls Tryz.prog 9 #[.agg #[.slice s1 d.codes.length c1,.slice s2 d.cores.length c2,.slice s3 d.mem.length c3,.slice s4 d.tr.length c4],.slice s5 l.length c5] w (RunQ8 w (runMb d l) (runMc d l)):=by
 obtain ⟨W,hW⟩:∃ W,(w.alloc (.cells #[.slice s1 d.codes.length c1,.slice s2 d.cores.length c2,.slice s3 d.mem.length c3,.slice s4 d.tr.length c4] 40)).alloc (.cells #[.slice none 0 0,.slice none 0 0,.slice none 0 0,.slice none 0 0] 40)=W:=⟨_,rfl⟩
 obtain ⟨bc,kW⟩:=bc2_new hW
 have HW:=hidN hW
 have H:=hidN h
 have H':=hidN h'
 have HF:=hidN hf
 have HLT:=hidN hlate
 have BC0:=hidN bc
 have KW:=hidN kW
 have zW:=kW.size
 obtain ⟨RS,hRS⟩:∃ R,runMb d l=R:=⟨_,rfl⟩
 obtain ⟨RC,hRC⟩:∃ R,runMc d l=R:=⟨_,rfl⟩
 have ES:=hidN hRS
 have EC:=hidN hRC
 rw [hRS,hRC]
 obtain ⟨m0,m1,m2,m3,-,-,-,-,-,zz⟩:=bc
 clear hRS hRC hW kW h h' hf hlate
 go_enter Tryz.func9,Tryz.ntmps9
 go_wp2_with fail
 rw [HW.out]
 refine (sameMachine_any s1 s2 s3 s4 c1 c2 c3 c4 lo hi d W (H.out.keep (Keep.of_below KW.out hB)) (by omega) HF.out).mono ?_
 rintro e w2 ⟨vc,vk,vm,vt,LC,LK,S,rfl,q2,hb2,hz2⟩
 obtain ⟨p,rfl,rfl,rfl,rfl,-⟩:=q2.mo
 obtain ⟨Y,hY⟩:∃ Y,w2.alloc (.cells #[.slice p.s1 d.codes.length p.c1,.slice p.s2 d.cores.length p.c2,.slice p.s3 d.mem.length p.c3,.slice p.s4 d.tr.length p.c4] 40)=Y:=⟨_,rfl⟩
 have kY:Below w2.heap.size w2 Y:=by subst hY;exact (Below.refl _ _).alloc (Nat.le_refl _) _
 have sY:w2.heap.size < Y.heap.size:=by subst hY;simp
 have RJ:=hidN (show RnJ W Y w2.heap.size W.heap.size (.slice p.s1 d.codes.length p.c1) (.slice p.s2 d.cores.length p.c2) (.slice p.s3 d.mem.length p.c3) LC d (.slice none 0 0) [] from
  ⟨⟨_,_,LK,S,(q2.toH (Nat.le_of_lt hz2)).keep (w':=Y) (fun b _ h1=>kY.block b h1) kY.size,by subst hY;simp [go_sem],fun q e=>by cases e⟩,by subst hY;simp [go_sem],by subst hY;simp [go_sem],by subst hY;simp [go_sem],by subst hY;intro j;simp [go_sem],by subst hY;exact BxT.new _ _,World.ownsRow_nil _ _ _ _,hb2.trans (kY.mono (by omega)),by omega⟩)
 have HY:=hidN hY
 have BB:Hid (W.heap.size≤w2.heap.size):=Nat.le_of_lt hz2
 have ZZ:=hidN zz
 have BCY:=hidN ((BC0.out.below hb2 zz).below kY (by omega))
 clear m0 m1 m2 m3 q2 hb2 hz2 hY kY sY
 go_upto_region 2 with fail
 rw [HY.out]
 clear HY
 have zY:Hid (w.heap.size+1 < W.heap.size):=zz
 obtain ⟨bm,hbm⟩:∃ b,w2.heap.size=b:=⟨_,rfl⟩
 rw [hbm] at RJ BB ⊢
 clear hbm
 have KT:Hid (∀ V,Below W.heap.size W V→Below w.heap.size w V):=fun V k=>KW.out.trans (k.mono zW)
 by_cases hll:4000 < l.length
 ·have hli:(4000:Int) < (l.length:Int):=by omega
  have E1:Hid (RS=d):=by show _=_;rw [← ES.out];unfold runMb;rw [if_neg (by omega)]
  have E2:Hid (RC=[]):=by show _=_;rw [← EC.out];unfold runMc;rw [if_neg (by omega)]
  have zb:=RJ.out.bx.lt
  obtain ⟨p',s',c',e',k0,k1,k2,k3,mo,sp⟩:=RJ.out.fin
  obtain ⟨-,-,-,-,a0,a1,a2,a3,fa,zz2⟩:=BCY.out
  have ne:¬ bm=w.heap.size+1:=by have:=BB.out;have:=ZZ.out;omega
  have ne':¬ w.heap.size+1=bm:=fun e=>ne e.symm
  have MO:=hidN mo
  clear mo sp e'
  go_wp2
  obtain ⟨Z,hZ,g0,g1,g2,g3,fz,sz,bz⟩:=BCY.out.put (a:=.slice p'.s1 d.codes.length p'.c1) (b:=.slice p'.s2 d.cores.length p'.c2) (c:=.slice p'.s3 d.mem.length p'.c3) (d:=.slice p'.s4 d.tr.length p'.c4)
  refine bodyPost_ret (v:=.tuple #[.agg #[.slice p'.s1 d.codes.length p'.c1,.slice p'.s2 d.cores.length p'.c2,.slice p'.s3 d.mem.length p'.c3,.slice p'.s4 d.tr.length p'.c4],.slice none 0 0]) ?_ rfl ?_
  ·rw [hZ]
   simp [results,Tryz.results9,go_sem,g0,g1,g2,g3]
  ·rw [hZ,E1.out,E2.out]
   exact fin8 (C:=[]) rfl BCY.out ZZ.out MO.out (World.ownsRow_nil _ _ _ _) (fun q e=>by cases e) (KT.out _ RJ.out.k) fz sz bz
 ·have hli:¬ (4000:Int) < (l.length:Int):=by omega
  obtain ⟨m0,m1,m2,m3,-,-,-,-,-,zz2⟩:=BCY.out
  go_wp2_with fail
  refine (implMachineOk_any s1 s2 s3 s4 c1 c2 c3 c4 lo hi d Y (H.out.keep (Keep.of_below (KT.out _ RJ.out.k) hB)) (by have:=(KT.out _ RJ.out.k).size;omega) (MaFits.of HF.out)).mono ?_
  rintro e w7 ⟨rfl,hb7⟩
  have R7:=hidN (RJ.out.keep hb7)
  have BC7:=hidN (BCY.out.below hb7 (by have:=BCY.out.z;omega))
  clear m0 m1 m2 m3 zz2 hb7 RJ BCY
  cases hy:machB d with
  | false=>
   have hy':¬ (machB d=true):=by rw [hy];simp
   have E1:Hid (RS=d):=by show _=_;rw [← ES.out];unfold runMb;rw [if_neg (fun h=>hy' h.2)]
   have E2:Hid (RC=[]):=by show _=_;rw [← EC.out];unfold runMc;rw [if_neg (fun h=>hy' h.2)]
   have zb:=R7.out.bx.lt
   obtain ⟨p',s',c',e',k0,k1,k2,k3,mo,sp⟩:=R7.out.fin
   obtain ⟨-,-,-,-,a0,a1,a2,a3,fa,zz2⟩:=BC7.out
   have ne:¬ bm=w.heap.size+1:=by have:=BB.out;have:=ZZ.out;omega
   have ne':¬ w.heap.size+1=bm:=fun e=>ne e.symm
   have MO:=hidN mo
   clear mo sp e'
   go_wp2
   obtain ⟨Z,hZ,g0,g1,g2,g3,fz,sz,bz⟩:=BC7.out.put (a:=.slice p'.s1 d.codes.length p'.c1) (b:=.slice p'.s2 d.cores.length p'.c2) (c:=.slice p'.s3 d.mem.length p'.c3) (d:=.slice p'.s4 d.tr.length p'.c4)
   refine bodyPost_ret (v:=.tuple #[.agg #[.slice p'.s1 d.codes.length p'.c1,.slice p'.s2 d.cores.length p'.c2,.slice p'.s3 d.mem.length p'.c3,.slice p'.s4 d.tr.length p'.c4],.slice none 0 0]) ?_ rfl ?_
   ·rw [hZ]
    simp [results,Tryz.results9,go_sem,g0,g1,g2,g3]
   ·rw [hZ,E1.out,E2.out]
    exact fin8 (C:=[]) rfl BC7.out ZZ.out MO.out (World.ownsRow_nil _ _ _ _) (fun q e=>by cases e) (KT.out _ R7.out.k) fz sz bz
  | true=>
   have E1:Hid (RS=rnM d l):=by show _=_;rw [← ES.out];unfold runMb;rw [if_pos ⟨by omega,hy⟩]
   have E2:Hid (RC=rnC d l):=by show _=_;rw [← EC.out];unfold runMc;rw [if_pos ⟨by omega,hy⟩]
   have HYM:=hidN hy
   clear hy
   go_wp2_with fail
   go_loopw [7,23] (fun u i wr=>∃ k:Nat,k≤l.length∧i=.int .i64 k∧RnJ W wr bm W.heap.size (.slice p.s1 d.codes.length p.c1) (.slice p.s2 d.cores.length p.c2) (.slice p.s3 d.mem.length p.c3) LC (rnM d (l.take k)) u (rnC d (l.take k))) (fun _ i _=>l.length - (intOf i).toNat)
   case atStart=>exact ⟨0,Nat.zero_le _,rfl,R7.out⟩
   case round=>
    obtain ⟨k,hk,rfl,rj⟩:=hrel
    have hoj:=rnM_ok (l.take k) HYM.out
    have hcl:(rnC d (l.take k)).length=k:=by rw [rnC_len,List.length_take];omega
    have EA:=hidN (fun (e:k=l.length)=>(show rnM d (l.take k)=RS∧rnC d (l.take k)=RC from by rw [E1.out,E2.out,e,List.take_length];exact ⟨rfl,rfl⟩))
    by_cases hlt:k < l.length
    ·obtain ⟨x,ek⟩:∃ x,l[k]? =some x:=⟨_,List.getElem?_eq_getElem hlt⟩
     have ED:=hidN (rn_take (d:=d) ek)
     have XL:=hidN (HLT.out x (List.mem_of_getElem? ek))
     have kw:=KT.out _ rj.k
     obtain ⟨g,o,es5,zg,p0,p1⟩:=H'.out.pk hB' kw ek
     subst es5
     have zg2:g < wr.heap.size:=by have:=kw.size;omega
     clear ek kw
     generalize rnM d (l.take k)=M at rj hoj EA ED
     generalize rnC d (l.take k)=C at rj hcl EA ED
     obtain ⟨V,hV⟩:∃ V,wr.alloc (.cells #[.int .i64 x.who,.int .i64 x.v] 62)=V:=⟨_,rfl⟩
     have kV:Below wr.heap.size wr V:=by subst hV;exact (Below.refl _ _).alloc (Nat.le_refl _) _
     have v0:V.cell? ⟨wr.heap.size,0,none⟩=some (.int .i64 x.who):=by subst hV;simp [go_sem]
     have v1:V.cell? ⟨wr.heap.size,1,none⟩=some (.int .i64 x.v):=by subst hV;simp [go_sem]
     have zV:wr.heap.size < V.heap.size:=by subst hV;simp
     have RV:=hidN (rj.keep kV)
     obtain ⟨Hq,vt,LK,S,q,c3,sp⟩:=RV.out.o
     have T:=hidN (stepIn_any x.who x.v q RV.out.c0 RV.out.c1 RV.out.c2 c3 RV.out.fm RV.out.bx BB.out RV.out.m hoj XL.out)
     have SP:=hidN sp
     have HV:=hidN hV
     have HCL:=hidN hcl
     have HOJ:=hidN hoj
     have b0:(0:Int)≤(k:Int):=by omega
     have b1:(k:Int) < (l.length:Int):=by omega
     obtain ⟨su,cu,eu⟩:=RV.out.n.sl
     subst eu
     clear q c3 sp rj hcl hoj EA kV hV
     go_upto_region 8 with fail
     rw [HV.out]
     clear HV p0 p1
     go_wp2_with fail
     refine Calls.mono T.out ?_
     intro e w9 ht
     obtain ⟨KK,hKK⟩:∃ K,(stepM M x.who x.v).2=K:=⟨_,rfl⟩
     have he:=ht.1
     rw [hKK] at ED he
     subst he
     have RT:=hidN (RV.out.turn SP.out ht)
     have OK9:=hidN (stepM_ok x.who x.v HOJ.out)
     clear ht hKK RV SP T HOJ v0 v1 zV
     go_wp2_with (at_builtin;refine app_one rfl _ _ rfl w9 KK W.heap.size (.slice su C.length cu) C rfl RT.out.n rfl (by have:=HCL.out;omega) RT.out.m ?_;intro g5 cap5 w5' ho5 hb5 hf5;have RA:=hidN (RT.out.app OK9.out ho5 hb5 hf5);clear ho5 hb5 hf5)
     go_roundw
     case rel=>exact ⟨k+1,by omega,by go_num,by rw [ED.out.1,ED.out.2];exact RA.out⟩
     case measure=>simp [intOf];omega
    ·have ek:k=l.length:=by omega
     obtain ⟨e1',e2'⟩:=EA.out ek
     rw [e1',e2'] at rj
     clear e1' e2' hoj hcl EA
     have zb:=rj.bx.lt
     have RK:=hidN rj
     obtain ⟨p',s',c',e',k0,k1,k2,k3,mo,sp⟩:=rj.fin
     subst e'
     have MO:=hidN mo
     have SP:=hidN sp
     have ON:=hidN rj.n
     have BCR:=hidN (BC0.out.below rj.k ZZ.out)
     obtain ⟨-,-,-,-,a0,a1,a2,a3,fa,zz2⟩:=BCR.out
     have ne:¬ bm=w.heap.size+1:=by have:=BB.out;have:=ZZ.out;omega
     have ne':¬ w.heap.size+1=bm:=fun e=>ne e.symm
     have b1:¬ (k:Int) < (l.length:Int):=by omega
     clear mo sp rj hlt ek
     go_wp2
     obtain ⟨Z,hZ,g0,g1,g2,g3,fz,sz,bz⟩:=BCR.out.put (a:=.slice p'.s1 RS.codes.length p'.c1) (b:=.slice p'.s2 RS.cores.length p'.c2) (c:=.slice p'.s3 RS.mem.length p'.c3) (d:=.slice p'.s4 RS.tr.length p'.c4)
     refine bodyPost_ret (v:=.tuple #[.agg #[.slice p'.s1 RS.codes.length p'.c1,.slice p'.s2 RS.cores.length p'.c2,.slice p'.s3 RS.mem.length p'.c3,.slice p'.s4 RS.tr.length p'.c4],.slice s' RC.length c']) ?_ rfl ?_
     ·rw [hZ]
      simp [results,Tryz.results9,go_sem,g0,g1,g2,g3]
     ·rw [hZ]
      exact fin8 rfl BCR.out ZZ.out MO.out ON.out SP.out (KT.out _ RK.out.k) fz sz bz
end
section
set_option linter.unusedSimpArgs false
set_option linter.unusedVariables false
set_option maxRecDepth 100000
open Go.RowKit
theorem goM_same (d:MD) (who:Nat) (k:KD) (n:Nat) (p:Int):(goM d who k n p).mem=d.mem∧(goM d who k n p).codes=d.codes:=by
 unfold goM
 split
 ·exact ⟨rfl,rfl⟩
 ·exact ⟨rfl,rfl⟩
theorem szV_snoc (x:WD):∀ l:List WD,szV (l++[x])=szV l+x.vw.length
 | []=>by simp [szV]
 | y::r=>by simp [szV,szV_snoc x r];omega
theorem szR_set (x:WD):∀ (m:List (List WD)) (c:Nat) (r:List WD),m[c]? =some r→szR (m.set c (r++[x]))=szR m+1+x.vw.length
 | [],c,r,h=>by simp at h
 | y::t,0,r,h=>by
  simp at h
  subst h
  simp [szR,szV_snoc]
  omega
 | y::t,c+1,r,h=>by
  have q:=szR_set x t c r (by simpa using h)
  simp [szR,q]
  omega
theorem told24 (l:List Int) (k n:Nat) (b:Bool) (hl:l.length=24):(toldL l k n b).length=24:=by
 unfold toldL
 split
 ·rw [List.length_set];exact hl
 ·rw [List.length_set,List.length_replicate]
theorem stM_sz {m:List (List WD)} {l:List Int} {c:Nat} (z:Int) (b:Bool) (hm:memB m=true) (hc:c < 24) (hl:l.length=24):(stM m l c z b).length+szR (stM m l c z b)=m.length+szR m+25:=by
 obtain ⟨-,r,hr,-⟩:=memB_at hm hc
 have e:m.getD c []=r:=by rw [List.getD_eq_getElem?_getD,hr];rfl
 unfold stM
 rw [e,szR_set _ m c r hr,List.length_set]
 simp only [told24 _ _ _ _ hl]
 omega
theorem stepAt_sz {d:MD} {who:Nat} {k:KD} {code:List I5} {s:I5} (late:Int) (ha:At8 d who k code s):(stepAt d who late k code.length s).1.codes=d.codes∧(stepAt d who late k code.length s).1.mem.length+szR (stepAt d who late k code.length s).1.mem≤d.mem.length+szR d.mem+25:=by
 have hm:=ha.mem
 have hl:k.vw.length=24:=by
  have q:=(viewB_iff.1 ha.vw).1
  have m:=(memB_at ha.mem (i:=0) (by omega)).1
  omega
 have go:∀ (d1:MD) (k1:KD) (p:Int),d1.codes=d.codes→d1.mem.length+szR d1.mem≤d.mem.length+szR d.mem+25→(goM d1 who k1 code.length p,(0:Int)).1.codes=d.codes∧(goM d1 who k1 code.length p,(0:Int)).1.mem.length+szR (goM d1 who k1 code.length p,(0:Int)).1.mem≤d.mem.length+szR d.mem+25:=fun d1 k1 p h1 h2=>by
  obtain ⟨e1,e2⟩:=goM_same d1 who k1 code.length p
  simp only [e1,e2]
  exact ⟨h1,h2⟩
 have st:∀ (k1:KD) (z:Int),(putK d who k1,z).1.codes=d.codes∧(putK d who k1,z).1.mem.length+szR (putK d who k1,z).1.mem≤d.mem.length+szR d.mem+25:=fun k1 z=>⟨rfl,Nat.le_add_right _ _⟩
 have no:∀ z:Int,(d,z).1.codes=d.codes∧(d,z).1.mem.length+szR (d,z).1.mem≤d.mem.length+szR d.mem+25:=fun z=>⟨rfl,Nat.le_add_right _ _⟩
 unfold stepAt
 by_cases e1:s.o=1
 ·rw [if_pos e1];exact go _ _ _ rfl (Nat.le_add_right _ _)
 rw [if_neg e1]
 by_cases e2:s.o=2
 ·rw [if_pos e2];exact go _ _ _ rfl (Nat.le_add_right _ _)
 rw [if_neg e2]
 by_cases e3:s.o=3
 ·rw [if_pos e3];exact go _ _ _ rfl (Nat.le_add_right _ _)
 rw [if_neg e3]
 by_cases e4:s.o=4
 ·rw [if_pos e4];exact go _ _ _ rfl (Nat.le_add_right _ _)
 rw [if_neg e4]
 by_cases e9:s.o=9
 ·rw [if_pos e9]
  by_cases hf:d.tr.length=4000
  ·rw [if_pos hf];exact no 3
  ·rw [if_neg hf];exact go _ _ _ rfl (Nat.le_add_right _ _)
 rw [if_neg e9]
 by_cases e10:s.o=10
 ·rw [if_pos e10];exact go _ _ _ rfl (Nat.le_add_right _ _)
 rw [if_neg e10]
 by_cases e11:s.o=11
 ·rw [if_pos e11];exact go _ _ _ rfl (Nat.le_add_right _ _)
 rw [if_neg e11]
 by_cases e12:s.o=12
 ·rw [if_pos e12];exact st _ 0
 rw [if_neg e12]
 by_cases e13:s.o=13
 ·rw [if_pos e13];exact st _ 0
 rw [if_neg e13]
 by_cases hc:0≤cellM k s∧cellM k s≤23
 ·rw [if_pos hc]
  generalize hcc:(cellM k s).toNat=c
  have hc24:c < 24:=by omega
  by_cases hfull:s.o≠5∧(d.mem.getD c []).length=4000
  ·rw [if_pos hfull];exact no 3
  ·rw [if_neg hfull]
   unfold memS
   by_cases e5:s.o=5
   ·rw [if_pos e5];exact go _ _ _ rfl (Nat.le_add_right _ _)
   ·rw [if_neg e5]
    by_cases e8:s.o=8
    ·rw [if_pos e8]
     have hw:(ldW d.mem k.vw c 0 true).length=24:=by
      have q:=(viewB_iff.1 (ldW_ok 0 true hm ha.vw hc24)).1
      have:=(memB_at hm hc24).1
      omega
     exact go _ _ _ rfl (Nat.le_of_eq (stM_sz _ _ hm hc24 hw))
    ·rw [if_neg e8]
     exact go _ _ _ rfl (Nat.le_of_eq (stM_sz _ _ hm hc24 hl))
 ·rw [if_neg hc];exact st _ 0
theorem stepM_sz {d:MD} (who late:Int) (h:machB d=true):(stepM d who late).1.codes=d.codes∧(stepM d who late).1.mem.length+szR (stepM d who late).1.mem≤d.mem.length+szR d.mem+25:=by
 by_cases hw:0≤who∧who < (d.cores.length:Int)
 ·obtain ⟨n,rfl⟩:∃ n:Nat,who=(n:Int):=⟨who.toNat,by omega⟩
  obtain ⟨k,code,s,ha⟩:=mach_at h (who:=n) (by omega)
  by_cases hr:k.st=0
  ·rw [stepM_at ha late hr];exact stepAt_sz late ha
  ·rw [stepM_over ha late hr];exact ⟨rfl,Nat.le_add_right _ _⟩
 ·rw [stepM_none late hw];exact ⟨rfl,Nat.le_add_right _ _⟩
theorem szK_all:∀ (l:List KD),(∀ (i:Nat) (x:KD),l[i]? =some x→x.regs.length=8∧x.vw.length=24)→szK l=32 * l.length
 | [],_=>rfl
 | x::r,h=>by
  have q:=szK_all r (fun i y hy=>h (i+1) y (by simpa using hy))
  have a:=h 0 x rfl
  simp [szK,q]
  omega
theorem mach_k {d:MD} (h:machB d=true):d.cores.length+szK d.cores≤132∧d.tr.length≤4000:=by
 have hl:=mach_len h
 have hk:szK d.cores=32 * d.cores.length:=szK_all _ fun i x hx=>by
  have hi:=(List.getElem?_eq_some_iff.1 hx).1
  obtain ⟨k,code,s,ha⟩:=mach_at h (who:=i) hi
  have e:k=x:=by have q:=ha.hk;rw [hx] at q;injection q with q;exact q.symm
  subst e
  have m24:=(memB_at ha.mem (i:=0) (by omega)).1
  have v24:=(viewB_iff.1 ha.vw).1
  exact ⟨ha.regs,by omega⟩
 unfold machB codesB trB at h
 simp only [Bool.and_eq_true,decide_eq_true_eq] at h
 have h1:=h.1.1
 exact ⟨by omega,h.2.2.1.1⟩
theorem fits_of {d d':MD} {e:Nat} (hm:machB d'=true) (hf:MaSz d≤1048576) (hc:d'.codes=d.codes) (hr:d'.mem.length+szR d'.mem≤d.mem.length+szR d.mem+e) (he:e≤900000):MaFits d':=by
 obtain ⟨h1,h2⟩:=mach_k hm
 unfold MaSz at hf
 refine ⟨by rw [hc];omega,by omega,by omega,by omega⟩
end
end Go.Proofs.YtepfpbcjklaenaaGreat
