/- What a step of memory of the specification stands on. No condition. MachineOk of the program. Conditions: the machine is counted. CoreStep of the program. Conditions: the machine is counted, late is a number of 64 bits. How much a step adds to a machine. No condition. Append of one integer onto a row, and which blocks stay. Conditions: fewer than 2^40 of them. Runs of machines: what a row of picks does; a machine in its box with a row of codes beside it. No condition. Rows of rows of places that a call has made, with what they hold: each inner row has a block of its own. Conditions: fewer than 2^30 rows, fewer than 2^30 places in each. Rows of places that are written over with running numbers. Conditions: at most 2^20 + 1 places. Running numbers read back from a row of places. Conditions: at most 2^20 + 1 places. Rows of rows of places, written over with running numbers. Conditions: the numbers stay below 10^15. Running numbers read back from rows of rows of places. Conditions: the numbers stay below 10^15. Rows of integers that a call has made, written over with running numbers and looked at again. Conditions: at most 2^20 + 1 integers. A program's lists, written over with running numbers and looked at again. Conditions: the numbers stay below 10^15. Rows of a call's own, read as a program's lists. MemoryNew of the program and of the specification. No condition. New cores put behind a row of them, and new machines. Conditions: fewer than 2^30 of them. CodeOk of the specification, at every list of at most 1048576 steps. -/
import Derived.Test.YtkhjhibigldcgaaGreatBG00
import Derived.Test.YtkhjhibigldcgaaGreatBG08
import Derived.Test.YtkhjhibigldcgaaGreatBG04
import Derived.Test.YtkhjhibigldcgaaGreatBG07
import Derived.Test.YtkhjhibigldcgaaGreatBG11
import Derived.Test.YtkhjhibigldcgaaGreatBG10
import Derived.Test.YtkhjhibigldcgaaGreatBG01
import Derived.Test.YtkhjhibigldcgaaGreatBMixOp
import Derived.Test.YtkhjhibigldcgaaGreatBMemStoreS
import Derived.Deep.RegionWith
import Derived.Test.YtkhjhibigldcgaaGreatBG09
import Derived.Test.YtkhjhibigldcgaaGreatBSpecIns
namespace Go.Proofs.YtkhjhibigldcgaaGreat
section
set_option linter.unusedSimpArgs false
set_option linter.unusedVariables false
set_option maxRecDepth 100000
open Go.RowKit
theorem own_tb {w:World} {base size n b:Nat} {e T:TypeId} {v:Value} {xs:List Value} (h:w.ownsRow base e size v n xs) (he:e≠T) (hb:TyB w b T):v.ownBlock≠some b:=fun hk=>by
 obtain ⟨cs,f,c⟩:=own_ty h hk
 exact he (TyB.ne ⟨cs,f,c⟩ hb)
/- the boxes of a step of memory: machine, pick, step, answer, core -/
structure Bm5 (V:World) (z:Nat) (m0 m1 m2 m3 x0 x1 s0 s1 s2 s3 s4 k0 k1 k2 k3:Value):Prop where
 m0:V.cell? ⟨z,0,none⟩=some m0
 m1:V.cell? ⟨z,1,none⟩=some m1
 m2:V.cell? ⟨z,2,none⟩=some m2
 m3:V.cell? ⟨z,3,none⟩=some m3
 x0:V.cell? ⟨z+1,0,none⟩=some x0
 x1:V.cell? ⟨z+1,1,none⟩=some x1
 s0:V.cell? ⟨z+1+1,0,none⟩=some s0
 s1:V.cell? ⟨z+1+1,1,none⟩=some s1
 s2:V.cell? ⟨z+1+1,2,none⟩=some s2
 s3:V.cell? ⟨z+1+1,3,none⟩=some s3
 s4:V.cell? ⟨z+1+1,4,none⟩=some s4
 a0:V.cell? ⟨z+1+1+1,0,none⟩=some (.slice none 0 0)
 a1:V.cell? ⟨z+1+1+1,1,none⟩=some (.slice none 0 0)
 a2:V.cell? ⟨z+1+1+1,2,none⟩=some (.slice none 0 0)
 a3:V.cell? ⟨z+1+1+1,3,none⟩=some (.slice none 0 0)
 k0:V.cell? ⟨z+1+1+1+1,0,none⟩=some k0
 k1:V.cell? ⟨z+1+1+1+1,1,none⟩=some k1
 k2:V.cell? ⟨z+1+1+1+1,2,none⟩=some k2
 k3:V.cell? ⟨z+1+1+1+1,3,none⟩=some k3
 fm:∀ j,V.frozen? ⟨z,j,none⟩=false
 fa:∀ j,V.frozen? ⟨z+1+1+1,j,none⟩=false
 fk:∀ j,V.frozen? ⟨z+1+1+1+1,j,none⟩=false
 bt:BxT V z∧BxT V (z+1+1+1)∧TyB V (z+1+1+1+1) 42
 z:z+1+1+1+1 < V.heap.size
theorem Bm5.keep {V V':World} {z:Nat} {m0 m1 m2 m3 x0 x1 s0 s1 s2 s3 s4 k0 k1 k2 k3:Value} (h:Bm5 V z m0 m1 m2 m3 x0 x1 s0 s1 s2 s3 s4 k0 k1 k2 k3) (hb:∀ b,z≤b→b < V.heap.size→V'.heap[b]? =V.heap[b]?) (hs:V.heap.size≤V'.heap.size):Bm5 V' z m0 m1 m2 m3 x0 x1 s0 s1 s2 s3 s4 k0 k1 k2 k3:=by
 have hz:=h.z
 have c0:∀ j,V'.cell? ⟨z,j,none⟩=V.cell? ⟨z,j,none⟩:=fun j=>World.cell?_of_block (hb z (by omega) (by omega))
 have c1:∀ j,V'.cell? ⟨z+1,j,none⟩=V.cell? ⟨z+1,j,none⟩:=fun j=>World.cell?_of_block (hb (z+1) (by omega) (by omega))
 have c2:∀ j,V'.cell? ⟨z+1+1,j,none⟩=V.cell? ⟨z+1+1,j,none⟩:=fun j=>World.cell?_of_block (hb (z+1+1) (by omega) (by omega))
 have c3:∀ j,V'.cell? ⟨z+1+1+1,j,none⟩=V.cell? ⟨z+1+1+1,j,none⟩:=fun j=>World.cell?_of_block (hb (z+1+1+1) (by omega) (by omega))
 have c4:∀ j,V'.cell? ⟨z+1+1+1+1,j,none⟩=V.cell? ⟨z+1+1+1+1,j,none⟩:=fun j=>World.cell?_of_block (hb (z+1+1+1+1) (by omega) (by omega))
 exact ⟨(c0 _).trans h.m0,(c0 _).trans h.m1,(c0 _).trans h.m2,(c0 _).trans h.m3,(c1 _).trans h.x0,(c1 _).trans h.x1,(c2 _).trans h.s0,(c2 _).trans h.s1,(c2 _).trans h.s2,(c2 _).trans h.s3,(c2 _).trans h.s4,(c3 _).trans h.a0,(c3 _).trans h.a1,(c3 _).trans h.a2,(c3 _).trans h.a3,(c4 _).trans h.k0,(c4 _).trans h.k1,(c4 _).trans h.k2,(c4 _).trans h.k3,fun j=>(World.frozen?_of_block (hb z (by omega) (by omega))).trans (h.fm j),fun j=>(World.frozen?_of_block (hb (z+1+1+1) (by omega) (by omega))).trans (h.fa j),fun j=>(World.frozen?_of_block (hb (z+1+1+1+1) (by omega) (by omega))).trans (h.fk j),⟨h.bt.1.same (hb z (by omega) (by omega)),h.bt.2.1.same (hb (z+1+1+1) (by omega) (by omega)),by obtain ⟨cs,f,c⟩:=h.bt.2.2;exact ⟨cs,f,(hb (z+1+1+1+1) (by omega) (by omega)).trans c⟩⟩,by omega⟩
theorem boxesM {w V : World} {m0 m1 m2 m3 x0 x1 k0 k1 k2 k3 s0 s1 s2 s3 s4 : Value} {T1 T2 : TypeId}
  (hV:((((w.alloc (.cells #[m0,m1,m2,m3] 35)).alloc (.cells #[x0,x1] T1)).alloc (.cells #[s0,s1,s2,s3,s4] T2)).alloc (.cells #[.slice none 0 0,.slice none 0 0,.slice none 0 0,.slice none 0 0] 35)).alloc (.cells #[k0,k1,k2,k3] 42)=V):
  Bm5 V w.heap.size m0 m1 m2 m3 x0 x1 s0 s1 s2 s3 s4 k0 k1 k2 k3∧Below w.heap.size w V:=by
 subst hV
 refine ⟨⟨?_,?_,?_,?_,?_,?_,?_,?_,?_,?_,?_,?_,?_,?_,?_,?_,?_,?_,?_,fun j=>?_,fun j=>?_,fun j=>?_,⟨?_,?_,?_⟩,?_⟩,((((((Below.refl _ _).alloc (Nat.le_refl _) _).alloc (by simp) _).alloc (by simp;omega) _).alloc (by simp;omega) _).alloc (by simp;omega) _)⟩
 any_goals (simp [go_sem];done)
 ·exact BxT.alloc (BxT.alloc (BxT.alloc (BxT.alloc (BxT.new w _) _) _) _) _
 ·have e:(((w.alloc (.cells #[m0,m1,m2,m3] 35)).alloc (.cells #[x0,x1] T1)).alloc (.cells #[s0,s1,s2,s3,s4] T2)).heap.size=w.heap.size+1+1+1:=by simp
  rw [← e]
  exact BxT.alloc (BxT.new _ _) _
 ·have e:((((w.alloc (.cells #[m0,m1,m2,m3] 35)).alloc (.cells #[x0,x1] T1)).alloc (.cells #[s0,s1,s2,s3,s4] T2)).alloc (.cells #[.slice none 0 0,.slice none 0 0,.slice none 0 0,.slice none 0 0] 35)).heap.size=w.heap.size+1+1+1+1:=by simp
  rw [← e]
  exact ⟨_,_,heap_alloc_new _ _⟩
theorem setCell_same {w:World} {g j:Nat} {v:Value} (h:w.cell? ⟨g,j,none⟩=some v) (b:Nat):(w.setCell ⟨g,j,none⟩ v).heap[b]? =w.heap[b]? :=by
 by_cases e:b=g
 ·subst e
  simp only [World.setCell,Array.getElem?_modify]
  unfold World.cell? at h
  cases hb:w.heap[b]? with
  | none=>simp
  | some o=>
   rw [hb] at h
   cases o with
   | cells cs t f=>
    simp only at h
    simp
    refine Array.ext (by simp) fun i h1 h2=>?_
    by_cases ei:j=i
    ·subst ei
     rw [Array.getElem_setIfInBounds_self]
     have:=(Array.getElem?_eq_some_iff.1 (by simpa using h)).2
     exact this.symm
    ·rw [Array.getElem_setIfInBounds_ne _ ei]
   | _=>simp
 ·exact Below.heap_setCell _ _ _ b e
/- a core's four cells stored, its view another one -/
theorem MQ.put4 {Hq : Nat → Prop} {w F : World} {B g c N : Nat} {vc vm vt r v : Value} {LC : List CV} {LK : List KV} {S : List RS} {d : MD} {i : Nat} {k : KD} (h : MQ w B Hq vc (.slice (some ⟨g, 0, none⟩) N c) vm vt LC LK S d) (hN : LK.length = N) (hx : LK[i]? = some ⟨k, r, v⟩) (u : Value) (l : List Int) (hu : OwnN w B u l) (hf : ∀ q, u.ownBlock = some q → ((∀ (j : Nat) (z : KV), LK[j]? = some z → ¬ (z.r.ownBlock = some q ∨ z.v.ownBlock = some q)) ∧ ∀ a ∈ mAs S, a.block ≠ q) ∧ Hq q)
  (hF:∀ b,b < w.heap.size→F.heap[b]? =((((w.setCell ⟨g,i * 4,none⟩ (.int .i64 k.pc)).setCell ⟨g,i * 4+1,none⟩ r).setCell ⟨g,i * 4+2,none⟩ u).setCell ⟨g,i * 4+3,none⟩ (.int .i64 k.st)).heap[b]?) (hs:w.heap.size≤F.heap.size):
  MQ F B Hq vc (.slice (some ⟨g,0,none⟩) N c) vm vt LC (LK.set i ⟨{ k with vw:=l },r,u⟩) S (putK d i { k with vw:=l }):=by
 subst hN
 have hi:i < LK.length:=(List.getElem?_eq_some_iff.1 hx).1
 obtain ⟨f0,f1,f2,f3⟩:=flatK_at LK i _ hx
 have c0:w.cell? ⟨g,i * 4,none⟩=some (.int .i64 k.pc):=by rw [World.ownsRow.cellAt h.k.row _ (by omega),f0]
 have c1:w.cell? ⟨g,i * 4+1,none⟩=some r:=by rw [World.ownsRow.cellAt h.k.row _ (by omega),f1]
 have c3:w.cell? ⟨g,i * 4+3,none⟩=some (.int .i64 k.st):=by rw [World.ownsRow.cellAt h.k.row _ (by omega),f3]
 refine (MQ.setV h hx u l hu hf).keep (fun b _ hb=>?_) (by simpa using hs)
 rw [hF b (by simpa using hb)]
 have e1:((w.setCell ⟨g,i * 4,none⟩ (.int .i64 k.pc)).setCell ⟨g,i * 4+1,none⟩ r).heap[b]? =w.heap[b]? :=by
  rw [setCell_same ((setC_off (by omega)).trans c1),setCell_same c0]
 refine (setCell_same ?_ b).trans (heap_pair e1)
 exact (setC_off (by omega)).trans ((setC_off (by omega)).trans ((setC_off (by omega)).trans c3))
/- a store into a box of a core's type that is none of the machine's -/
theorem MQ0.offC {w:World} {B b j:Nat} {vc vk vm vt u:Value} {LC:List CV} {LK:List KV} {S:List RS} {d:MD} (h:MQ0 w B vc vk vm vt LC LK S d) (ht:TyB w b 42) (hne:vk.ownBlock≠some b):MQ0 (w.setCell ⟨b,j,none⟩ u) B vc vk vm vt LC LK S d:=by
 have hb:∀ k,k≠b→(w.setCell ⟨b,j,none⟩ u).heap[k]? =w.heap[k]? :=fun k hk=>Below.heap_setCell _ _ _ k hk
 have ne:∀ {e:TypeId} {size n:Nat} {u':Value} {xs:List Value},w.ownsRow B e size u' n xs→e≠42→∀ k,u'.ownBlock=some k→(w.setCell ⟨b,j,none⟩ u).heap[k]? =w.heap[k]? :=fun hu he k hk=>hb k (fun e'=>own_tb hu he ht (by rw [hk,e']))
 refine ⟨⟨ownKeep' h.c.row (ne h.c.row (by decide)),fun i x hx=>ownKeep' (h.c.inn i x hx) (ne (h.c.inn i x hx) (by decide)),h.c.sep⟩,h.ec,⟨ownKeep' h.k.row (fun k hk=>hb k (fun e=>hne (by rw [hk,e]))),fun i x hx=>⟨ownKeep' (h.k.inn i x hx).1 (ne (h.k.inn i x hx).1 (by decide)),ownKeep' (h.k.inn i x hx).2 (ne (h.k.inn i x hx).2 (by decide))⟩,h.k.two,h.k.sep⟩,h.ek,⟨h.m.n,ownKeep' h.m.row (ne h.m.row (by decide)),fun i r l hr hl=>?_,h.m.d⟩,ownKeep' h.t (ne h.t (by decide)),h.sk⟩
 have q:=h.m.r i r l hr hl
 refine q.kept (ne q.own (by decide)) (fun a ha=>hb a.block (fun e=>?_)) (by simp)
 obtain ⟨cs,f,c1⟩:=q.vt a ha
 obtain ⟨cs',f',c2⟩:=ht
 rw [e,c2] at c1
 injection c1 with c1
 injection c1 with _ c1
 exact absurd c1 (by decide)
theorem MQ.offC {Hq:Nat→Prop} {w:World} {B b j:Nat} {vc vk vm vt u:Value} {LC:List CV} {LK:List KV} {S:List RS} {d:MD} (h:MQ w B Hq vc vk vm vt LC LK S d) (ht:TyB w b 42) (hne:vk.ownBlock≠some b):MQ (w.setCell ⟨b,j,none⟩ u) B Hq vc vk vm vt LC LK S d:=⟨h.toMQ0.offC ht hne,h.hh,by simpa using h.hn⟩
theorem TyB.set {w:World} {b g o:Nat} {v:Value} {T:TypeId} (h:TyB w b T):TyB (w.setCell ⟨g,o,none⟩ v) b T:=by
 obtain ⟨cs,f,c⟩:=h
 by_cases e:b=g
 ·subst e
  exact ⟨_,f,heap_set c⟩
 ·exact ⟨cs,f,(Below.heap_setCell _ _ _ b e).trans c⟩
/- a view that a call has made lies apart -/
theorem MQ0.fresh {w w':World} {B:Nat} {vc vk vm vt u:Value} {LC:List CV} {LK:List KV} {S:List RS} {d:MD} {l:List Int} (h:MQ0 w B vc vk vm vt LC LK S d) (hu:OwnN w' w.heap.size u l):∀ q,u.ownBlock=some q→(∀ (j:Nat) (z:KV),LK[j]? =some z→¬ (z.r.ownBlock=some q∨z.v.ownBlock=some q))∧∀ a∈mAs S,a.block≠q:=fun q hq=>by
 have hlt:=(World.ownsRow.lt hu _ hq).1
 refine ⟨fun j z hz hh=>?_,fun a ha e=>?_⟩
 ·rcases hh with hh | hh
  ·have:=(World.ownsRow.lt (h.k.inn j z hz).1 _ hh).2;omega
  ·have:=(World.ownsRow.lt (h.k.inn j z hz).2 _ hh).2;omega
 ·have:=h.m.memblk ha;omega
theorem MQ.fresh {Hq:Nat→Prop} {w w':World} {B:Nat} {vc vk vm vt u:Value} {LC:List CV} {LK:List KV} {S:List RS} {d:MD} {l:List Int} (h:MQ w B Hq vc vk vm vt LC LK S d) (hu:OwnN w' w.heap.size u l):∀ q,u.ownBlock=some q→((∀ (j:Nat) (z:KV),LK[j]? =some z→¬ (z.r.ownBlock=some q∨z.v.ownBlock=some q))∧∀ a∈mAs S,a.block≠q)∧Hq q:=fun q hq=>⟨h.toMQ0.fresh hu q hq,h.hn q (World.ownsRow.lt hu _ hq).1⟩
theorem MQ.re {w w':World} {B:Nat} {Hq:Nat→Prop} {vc vk vm vt:Value} {LC:List CV} {LK:List KV} {S:List RS} {d:MD} (h:MQ w B Hq vc vk vm vt LC LK S d) (hb:∀ k,B≤k→k < w.heap.size→w'.heap[k]? =w.heap[k]?) (hs:w.heap.size≤w'.heap.size):MQ w' B (fun q=>(q < w.heap.size∧Hq q)∨w'.heap.size≤q) vc vk vm vt LC LK S d:=
 ⟨h.toMQ0.keep hb hs,⟨fun q e=>.inl ⟨(World.ownsRow.lt h.c.row q e).2,h.hh.c q e⟩,fun i x q hx e=>.inl ⟨(World.ownsRow.lt (h.c.inn i x hx) q e).2,h.hh.ci i x q hx e⟩,fun q e=>.inl ⟨(World.ownsRow.lt h.k.row q e).2,h.hh.k q e⟩,fun i x q hx e=>.inl ⟨e.elim (fun e=>(World.ownsRow.lt (h.k.inn i x hx).1 q e).2) (fun e=>(World.ownsRow.lt (h.k.inn i x hx).2 q e).2),h.hh.ki i x q hx e⟩,fun q e=>.inl ⟨(World.ownsRow.lt h.m.row q e).2,h.hh.m q e⟩,fun a ha=>.inl ⟨h.m.memblk ha,h.hh.mi a ha⟩,fun q e=>.inl ⟨(World.ownsRow.lt h.t q e).2,h.hh.t q e⟩⟩,fun q hq=>.inr hq⟩
theorem MQ.wk {w:World} {B:Nat} {Hq H2:Nat→Prop} {vc vk vm vt:Value} {LC:List CV} {LK:List KV} {S:List RS} {d:MD} (h:MQ w B Hq vc vk vm vt LC LK S d) (hw:∀ q,Hq q→H2 q):MQ w B H2 vc vk vm vt LC LK S d:=
 ⟨h.toMQ0,⟨fun q e=>hw q (h.hh.c q e),fun i x q hx e=>hw q (h.hh.ci i x q hx e),fun q e=>hw q (h.hh.k q e),fun i x q hx e=>hw q (h.hh.ki i x q hx e),fun q e=>hw q (h.hh.m q e),fun a ha=>hw _ (h.hh.mi a ha),fun q e=>hw q (h.hh.t q e)⟩,fun q hq=>hw q (h.hn q hq)⟩
theorem MQ.rowH {w:World} {B:Nat} {Hq:Nat→Prop} {vc vk vm vt:Value} {LC:List CV} {LK:List KV} {S:List RS} {d:MD} {i:Nat} {r:RS} (h:MQ w B Hq vc vk vm vt LC LK S d) (hr:S[i]? =some r) (h0:0 < r.vs.length) (q:Nat) (e:r.val.ownBlock=some q):Hq q:=by
 have hs:∃ o sp,r.s=some ⟨q,o,sp⟩:=by
  unfold RS.val at e
  cases hh:r.s with
  | none=>rw [hh] at e;simp [Value.ownBlock] at e
  | some a=>
   rw [hh] at e
   simp [Value.ownBlock] at e
   obtain ⟨g,o,sp⟩:=a
   simp at e
   subst e
   exact ⟨o,sp,rfl⟩
 obtain ⟨o,sp,hs⟩:=hs
 have hm:=h.hh.mi (adr r.s (0 * 2)) (mem_mAs.2 ⟨r,List.mem_of_getElem? hr,mem_rAs.2 (.inl ⟨0,h0,by simp⟩)⟩)
 rw [hs] at hm
 exact hm
theorem hidM {p:Prop} (h:p):Hid p:=h
/- what a step of memory answers -/
def MemP (w:World) (B:Nat) (Hq:Nat→Prop) (vc vk vm vt:Value) (LC:List CV) (LK:List KV) (S:List RS) (d:MD) (who:Nat) (late:Int) (k:KD) (s:I5) (e:Ending) (w':World):Prop:=
 if 0≤cellM k s∧cellM k s≤23 then
  (if s.o≠5∧(d.mem.getD (cellM k s).toNat []).length=4000 then e=.returned (.tuple #[.agg #[vc,vk,vm,vt],.bool true,.bool true])∧Below w.heap.size w w'
   else ∃ LK' S' r u,e=.returned (.tuple #[.agg #[vc,vk,vm,vt],.bool true,.bool false])∧MQ w' B Hq vc vk vm vt LC LK' S' (putK (memS d late k s (cellM k s).toNat).1 who (memS d late k s (cellM k s).toNat).2)∧LK'[who]? =some ⟨(memS d late k s (cellM k s).toNat).2,r,u⟩∧LK'.length=LK.length∧Below B w w'∧∀ b,¬ Hq b→w'.heap[b]? =w.heap[b]?)
 else e=.returned (.tuple #[.agg #[vc,vk,vm,vt],.bool false,.bool false])∧Below w.heap.size w w'
theorem OW.cellc {w:World} {B g n c k:Nat} {S:List RS} {m:List (List WD)} {r:RS} {lr:List WD} (h:OW w B (.slice (some ⟨g,0,none⟩) n c) S m) (hn:n=m.length) (hk:S[k]? =some r) (hl:m[k]? =some lr):w.cell? ⟨g,k,none⟩=some (.slice r.s lr.length r.c):=by
 have hr:=h.row
 rw [h.n,← hn] at hr
 have hlt:=(List.getElem?_eq_some_iff.1 hl).1
 have q:=(h.r k r lr hk hl).n
 rw [World.ownsRow.cellAt hr k (by omega),List.getElem?_map,hk]
 show some (Value.slice r.s r.vs.length r.c)=_
 rw [q]
theorem OW.memw {w:World} {B:Nat} {v:Value} {S:List RS} {m:List (List WD)} (h:OW w B v S m):∃ s c,v=.slice s m.length c∧MemR w B w.heap.size s m:=by
 obtain ⟨s,c,rfl,hm⟩:=h.om.mo
 exact ⟨s,c,rfl,hm.mem⟩
theorem OW.some_ {w:World} {B:Nat} {v:Value} {S:List RS} {m:List (List WD)} (h:OW w B v S m) (hm:memB m=true):∀ (i:Nat) (r:RS),S[i]? =some r→0 < r.vs.length:=fun i r hr=>by
 have hi:=(List.getElem?_eq_some_iff.1 hr).1
 have h24:=(memB_at hm (i:=0) (by omega)).1
 have hn:=h.n
 obtain ⟨-,l,hl,-,h1,-⟩:=memB_at hm (i:=i) (by omega)
 have q:=(h.r i r l hr hl).n
 omega
theorem ldW_eq (m:List (List WD)) (l:List Int) (c:Nat) (late:Int) (hold:Bool):(if hold=true then joinL (l.set c (ldJ m l c late)) (ldX m l c late).vw else l.set c (ldJ m l c late))=ldW m l c late hold:=rfl
end
section
set_option linter.unusedSimpArgs false
set_option linter.unusedVariables false
set_option maxRecDepth 100000
open Go.RowKit
end
section
set_option linter.unusedSimpArgs false
set_option linter.unusedVariables false
set_option maxRecDepth 100000
open Go.RowKit
def noMd:MD:=⟨[],[],[],[]⟩
def noMP:MP:=⟨none,0,[],none,0,[],none,0,[],none,0⟩
theorem noMa (w:World) (lo hi:Nat):MaO w lo hi noMP noMd:=⟨GO.nil _ _ _ _ _,GO.nil _ _ _ _ _,MO.nil _ _ _ _,⟨rfl,.inl rfl⟩,by simp [MP.as,noMP,noMd,gAs,mAs,MP.x4,VS.wide,vAs]⟩
end
section
set_option linter.unusedSimpArgs false
set_option linter.unusedVariables false
set_option maxRecDepth 100000
open Go.RowKit
theorem goM_same (d:MD) (who:Nat) (k:KD) (n:Nat) (p:Int):(goM d who k n p).mem=d.mem∧(goM d who k n p).codes=d.codes:=by
 unfold goM
 split
 ·exact ⟨rfl,rfl⟩
 ·exact ⟨rfl,rfl⟩
theorem szV_snoc (x:WD):∀ l:List WD,szV (l++[x])=szV l+x.vw.length
 | []=>by simp [szV]
 | y::r=>by simp [szV,szV_snoc x r];omega
theorem szR_set (x:WD):∀ (m:List (List WD)) (c:Nat) (r:List WD),m[c]? =some r→szR (m.set c (r++[x]))=szR m+1+x.vw.length
 | [],c,r,h=>by simp at h
 | y::t,0,r,h=>by
  simp at h
  subst h
  simp [szR,szV_snoc]
  omega
 | y::t,c+1,r,h=>by
  have q:=szR_set x t c r (by simpa using h)
  simp [szR,q]
  omega
theorem told24 (l:List Int) (k n:Nat) (b:Bool) (hl:l.length=24):(toldL l k n b).length=24:=by
 unfold toldL
 split
 ·rw [List.length_set];exact hl
 ·rw [List.length_set,List.length_replicate]
theorem stM_sz {m:List (List WD)} {l:List Int} {c:Nat} (z:Int) (b:Bool) (hm:memB m=true) (hc:c < 24) (hl:l.length=24):(stM m l c z b).length+szR (stM m l c z b)=m.length+szR m+25:=by
 obtain ⟨-,r,hr,-⟩:=memB_at hm hc
 have e:m.getD c []=r:=by rw [List.getD_eq_getElem?_getD,hr];rfl
 unfold stM
 rw [e,szR_set _ m c r hr,List.length_set]
 simp only [told24 _ _ _ _ hl]
 omega
theorem stepAt_sz {d:MD} {who:Nat} {k:KD} {code:List I5} {s:I5} (late:Int) (ha:At8 d who k code s):(stepAt d who late k code.length s).1.codes=d.codes∧(stepAt d who late k code.length s).1.mem.length+szR (stepAt d who late k code.length s).1.mem≤d.mem.length+szR d.mem+25:=by
 have hm:=ha.mem
 have hl:k.vw.length=24:=by
  have q:=(viewB_iff.1 ha.vw).1
  have m:=(memB_at ha.mem (i:=0) (by omega)).1
  omega
 have go:∀ (d1:MD) (k1:KD) (p:Int),d1.codes=d.codes→d1.mem.length+szR d1.mem≤d.mem.length+szR d.mem+25→(goM d1 who k1 code.length p,(0:Int)).1.codes=d.codes∧(goM d1 who k1 code.length p,(0:Int)).1.mem.length+szR (goM d1 who k1 code.length p,(0:Int)).1.mem≤d.mem.length+szR d.mem+25:=fun d1 k1 p h1 h2=>by
  obtain ⟨e1,e2⟩:=goM_same d1 who k1 code.length p
  simp only [e1,e2]
  exact ⟨h1,h2⟩
 have st:∀ (k1:KD) (z:Int),(putK d who k1,z).1.codes=d.codes∧(putK d who k1,z).1.mem.length+szR (putK d who k1,z).1.mem≤d.mem.length+szR d.mem+25:=fun k1 z=>⟨rfl,Nat.le_add_right _ _⟩
 have no:∀ z:Int,(d,z).1.codes=d.codes∧(d,z).1.mem.length+szR (d,z).1.mem≤d.mem.length+szR d.mem+25:=fun z=>⟨rfl,Nat.le_add_right _ _⟩
 unfold stepAt
 by_cases e1:s.o=1
 ·rw [if_pos e1];exact go _ _ _ rfl (Nat.le_add_right _ _)
 rw [if_neg e1]
 by_cases e2:s.o=2
 ·rw [if_pos e2];exact go _ _ _ rfl (Nat.le_add_right _ _)
 rw [if_neg e2]
 by_cases e3:s.o=3
 ·rw [if_pos e3];exact go _ _ _ rfl (Nat.le_add_right _ _)
 rw [if_neg e3]
 by_cases e4:s.o=4
 ·rw [if_pos e4];exact go _ _ _ rfl (Nat.le_add_right _ _)
 rw [if_neg e4]
 by_cases e9:s.o=9
 ·rw [if_pos e9]
  by_cases hf:d.tr.length=4000
  ·rw [if_pos hf];exact no 3
  ·rw [if_neg hf];exact go _ _ _ rfl (Nat.le_add_right _ _)
 rw [if_neg e9]
 by_cases e10:s.o=10
 ·rw [if_pos e10];exact go _ _ _ rfl (Nat.le_add_right _ _)
 rw [if_neg e10]
 by_cases e11:s.o=11
 ·rw [if_pos e11];exact go _ _ _ rfl (Nat.le_add_right _ _)
 rw [if_neg e11]
 by_cases e12:s.o=12
 ·rw [if_pos e12];exact st _ 0
 rw [if_neg e12]
 by_cases e13:s.o=13
 ·rw [if_pos e13];exact st _ 0
 rw [if_neg e13]
 by_cases hc:0≤cellM k s∧cellM k s≤23
 ·rw [if_pos hc]
  generalize hcc:(cellM k s).toNat=c
  have hc24:c < 24:=by omega
  by_cases hfull:s.o≠5∧(d.mem.getD c []).length=4000
  ·rw [if_pos hfull];exact no 3
  ·rw [if_neg hfull]
   unfold memS
   by_cases e5:s.o=5
   ·rw [if_pos e5];exact go _ _ _ rfl (Nat.le_add_right _ _)
   ·rw [if_neg e5]
    by_cases e8:s.o=8
    ·rw [if_pos e8]
     have hw:(ldW d.mem k.vw c 0 true).length=24:=by
      have q:=(viewB_iff.1 (ldW_ok 0 true hm ha.vw hc24)).1
      have:=(memB_at hm hc24).1
      omega
     exact go _ _ _ rfl (Nat.le_of_eq (stM_sz _ _ hm hc24 hw))
    ·rw [if_neg e8]
     exact go _ _ _ rfl (Nat.le_of_eq (stM_sz _ _ hm hc24 hl))
 ·rw [if_neg hc];exact st _ 0
theorem stepM_sz {d:MD} (who late:Int) (h:machB d=true):(stepM d who late).1.codes=d.codes∧(stepM d who late).1.mem.length+szR (stepM d who late).1.mem≤d.mem.length+szR d.mem+25:=by
 by_cases hw:0≤who∧who < (d.cores.length:Int)
 ·obtain ⟨n,rfl⟩:∃ n:Nat,who=(n:Int):=⟨who.toNat,by omega⟩
  obtain ⟨k,code,s,ha⟩:=mach_at h (who:=n) (by omega)
  by_cases hr:k.st=0
  ·rw [stepM_at ha late hr];exact stepAt_sz late ha
  ·rw [stepM_over ha late hr];exact ⟨rfl,Nat.le_add_right _ _⟩
 ·rw [stepM_none late hw];exact ⟨rfl,Nat.le_add_right _ _⟩
theorem szK_all:∀ (l:List KD),(∀ (i:Nat) (x:KD),l[i]? =some x→x.regs.length=8∧x.vw.length=24)→szK l=32 * l.length
 | [],_=>rfl
 | x::r,h=>by
  have q:=szK_all r (fun i y hy=>h (i+1) y (by simpa using hy))
  have a:=h 0 x rfl
  simp [szK,q]
  omega
theorem mach_k {d:MD} (h:machB d=true):d.cores.length+szK d.cores≤132∧d.tr.length≤4000:=by
 have hl:=mach_len h
 have hk:szK d.cores=32 * d.cores.length:=szK_all _ fun i x hx=>by
  have hi:=(List.getElem?_eq_some_iff.1 hx).1
  obtain ⟨k,code,s,ha⟩:=mach_at h (who:=i) hi
  have e:k=x:=by have q:=ha.hk;rw [hx] at q;injection q with q;exact q.symm
  subst e
  have m24:=(memB_at ha.mem (i:=0) (by omega)).1
  have v24:=(viewB_iff.1 ha.vw).1
  exact ⟨ha.regs,by omega⟩
 unfold machB codesB trB at h
 simp only [Bool.and_eq_true,decide_eq_true_eq] at h
 have h1:=h.1.1
 exact ⟨by omega,h.2.2.1.1⟩
end
section
set_option linter.unusedSimpArgs false
set_option linter.unusedVariables false
set_option maxRecDepth 100000
open Go.RowKit
theorem app_one {ops : Array Oper} {rest : List Oper} {o : Oper} {a : Act} {Q : Exit → Act → World → Prop} (hgd : o.guard = none) (s x : Operand) (ho : o.op = .call { callee := .builtin .append, args := #[s, x], argTypes := #[24, 24] })
  (w:World) (z:Int) (base:Nat) (v:Value) (ls:List Int) (hs:a.eval s=v) (hown:OwnN w base v ls) (hx:a.eval x=.slice (some ⟨w.heap.size,0,none⟩) 1 1) (hn:ls.length≤1099511627775) (hbase:base≤w.heap.size)
  (h:∀ g cap w',OwnN w' base (.slice (some ⟨g,0,none⟩) (ls.length+1) cap) (ls++[z])→Below base w w'→(∀ k,k < w.heap.size→v.ownBlock≠some k→w'.heap[k]? =w.heap[k]? ∧k≠g)→wpList Tryz.prog ops Q rest (a.put o.dst (.slice (some ⟨g,0,none⟩) (ls.length+1) cap)) w'):
  wpList Tryz.prog ops Q (o::rest) a (w.alloc (.cells #[.int .i64 z] 3)):=by
 obtain ⟨i0,hi,hz0,hz1,hz2⟩:=infoInt
 have h1':=hown.alloc (.cells #[.int .i64 z] 3)
 refine wpList_append_lies _ hgd s x 24 ho base 3 i0 _ 1 8 Tryz.underlying24 hi hz0 hz1 hz2 rfl (by decide) v ls.length _ hs h1' ⟨w.heap.size,0,none⟩ 1 1 [.int .i64 z] hx rfl (newN1 w _) (fun u hu=>by simp at hu;subst hu;rfl) (by decide) (by unfold maxLen;omega) (by omega) (by simp;omega) _ rfl ?_
 intro g cap w' q1 q2 q3 q4
 have hb:Below base w w':=Below.grown (((Below.refl _ _).alloc hbase _)) q2 (by simp;omega) (fun j hj=>(World.ownsRow.lt h1' _ hj).1)
 refine h g cap w' ?_ hb (fun k hk hne=>?_)
 ·show w'.ownsRow base 3 1 _ (ls++[z]).length ((ls++[z]).map (Value.int .i64))
  rw [List.map_append,List.length_append]
  exact q1
 ·refine ⟨(q2.block k (by simp;omega) (fun e=>hne e.symm)).trans (Below.heap_alloc _ _ _ hk),?_⟩
  rintro rfl
  rcases q3 with q3 | q3
  ·exact hne q3
  ·simp at q3;omega
end
section
set_option linter.unusedSimpArgs false
set_option linter.unusedVariables false
set_option maxRecDepth 100000
open Go.RowKit
noncomputable def rnM:MD→List ND→MD
 | d,[]=>d
 | d,x::r=>rnM (stepM d x.who x.v).1 r
noncomputable def rnC:MD→List ND→List Int
 | _,[]=>[]
 | d,x::r=>(stepM d x.who x.v).2::rnC (stepM d x.who x.v).1 r
theorem rnM_app:∀ (l m:List ND) (d:MD),rnM d (l++m)=rnM (rnM d l) m
 | [],_,_=>rfl
 | x::r,m,d=>rnM_app r m (stepM d x.who x.v).1
theorem rnC_app:∀ (l m:List ND) (d:MD),rnC d (l++m)=rnC d l++rnC (rnM d l) m
 | [],_,_=>rfl
 | x::r,m,d=>by
  show _::rnC _ (r++m)=_
  rw [rnC_app r m]
  rfl
theorem rnM_ok:∀ (l:List ND) {d:MD},machB d=true→machB (rnM d l)=true
 | [],_,h=>h
 | x::r,_,h=>rnM_ok r (stepM_ok x.who x.v h)
theorem mach_mem {d:MD} (h:machB d=true):memB d.mem=true:=by
 unfold machB at h
 simp only [Bool.and_eq_true] at h
 exact h.2.2.2
/- behind an append beside it: the machine's blocks are as they were, and new ones are free again -/
theorem MQ.hop {w w':World} {B:Nat} {Hq:Nat→Prop} {vc vk vm vt:Value} {LC:List CV} {LK:List KV} {S:List RS} {d:MD} (h:MQ w B Hq vc vk vm vt LC LK S d) (hm:memB d.mem=true) (hb:∀ k,k < w.heap.size→Hq k→w'.heap[k]? =w.heap[k]?) (hs:w.heap.size≤w'.heap.size):MQ w' B (fun q=>(q < w.heap.size∧Hq q)∨w'.heap.size≤q) vc vk vm vt LC LK S d:=by
 have r:=h.re (w':=w) (fun _ _ _=>rfl) (Nat.le_refl _)
 have lt:∀ {e:TypeId} {size n:Nat} {u:Value} {xs:List Value},w.ownsRow B e size u n xs→(∀ q,u.ownBlock=some q→Hq q)→∀ q,u.ownBlock=some q→w'.heap[q]? =w.heap[q]? :=fun hu hh q e=>hb q (World.ownsRow.lt hu q e).2 (hh q e)
 refine ⟨⟨⟨ownKeep' h.c.row (lt h.c.row h.hh.c),fun i x hx=>ownKeep' (h.c.inn i x hx) (lt (h.c.inn i x hx) (fun q e=>h.hh.ci i x q hx e)),h.c.sep⟩,h.ec,⟨ownKeep' h.k.row (lt h.k.row h.hh.k),fun i x hx=>⟨ownKeep' (h.k.inn i x hx).1 (lt (h.k.inn i x hx).1 (fun q e=>h.hh.ki i x q hx (.inl e))),ownKeep' (h.k.inn i x hx).2 (lt (h.k.inn i x hx).2 (fun q e=>h.hh.ki i x q hx (.inr e)))⟩,h.k.two,h.k.sep⟩,h.ek,⟨h.m.n,ownKeep' h.m.row (lt h.m.row h.hh.m),fun i r l hr hl=>?_,h.m.d⟩,ownKeep' h.t (lt h.t h.hh.t),h.sk⟩,?_,fun q hq=>.inr hq⟩
 ·have q:=h.m.r i r l hr hl
  refine q.kept (lt q.own (h.rowH hr (h.m.some_ hm i r hr))) (fun a ha=>?_) hs
  have ha':a∈mAs S:=mem_mAs.2 ⟨r,List.mem_of_getElem? hr,mem_rAs.2 (.inr (mem_vsA.1 ha))⟩
  exact hb _ (h.m.memblk ha') (h.hh.mi a ha')
 ·have f:∀ q,q < w.heap.size→Hq q→(q < w.heap.size∧Hq q)∨w'.heap.size≤q:=fun q a b=>.inl ⟨a,b⟩
  have g:∀ q,q < w.heap.size∧Hq q∨w.heap.size≤q→q < w.heap.size→(q < w.heap.size∧Hq q)∨w'.heap.size≤q:=fun q a b=>a.elim (fun a=>.inl a) (fun a=>by omega)
  exact ⟨fun q e=>f q (World.ownsRow.lt h.c.row q e).2 (h.hh.c q e),fun i x q hx e=>f q (World.ownsRow.lt (h.c.inn i x hx) q e).2 (h.hh.ci i x q hx e),fun q e=>f q (World.ownsRow.lt h.k.row q e).2 (h.hh.k q e),fun i x q hx e=>f q (e.elim (fun e=>(World.ownsRow.lt (h.k.inn i x hx).1 q e).2) (fun e=>(World.ownsRow.lt (h.k.inn i x hx).2 q e).2)) (h.hh.ki i x q hx e),fun q e=>f q (World.ownsRow.lt h.m.row q e).2 (h.hh.m q e),fun a ha=>f _ (h.m.memblk ha) (h.hh.mi a ha),fun q e=>f q (World.ownsRow.lt h.t q e).2 (h.hh.t q e)⟩
/- a copy that a call has made -/
theorem MQ0.toH {w:World} {B:Nat} {vc vk vm vt:Value} {LC:List CV} {LK:List KV} {S:List RS} {d:MD} (h:MQ0 w B vc vk vm vt LC LK S d) (hB:B≤w.heap.size):MQ w B (fun q=>B≤q) vc vk vm vt LC LK S d:=
 ⟨h,⟨fun q e=>(World.ownsRow.lt h.c.row q e).1,fun i x q hx e=>(World.ownsRow.lt (h.c.inn i x hx) q e).1,fun q e=>(World.ownsRow.lt h.k.row q e).1,fun i x q hx e=>e.elim (fun e=>(World.ownsRow.lt (h.k.inn i x hx).1 q e).1) (fun e=>(World.ownsRow.lt (h.k.inn i x hx).2 q e).1),fun q e=>(World.ownsRow.lt h.m.row q e).1,fun a ha=>(h.m.om.blk ha).1,fun q e=>(World.ownsRow.lt h.t q e).1⟩,fun q hq=>Nat.le_trans hB hq⟩
theorem intNM:(3:TypeId)≠35:=by decide
theorem NtsR.pk {w wr:World} {lo hi:Nat} {s:Option Addr} {l:List ND} (h:NtsR w lo hi s l) (hB:hi≤w.heap.size) (hb:Below w.heap.size w wr) {k:Nat} {x:ND} (hk:l[k]? =some x):∃ g o,s=some ⟨g,o,none⟩∧g < w.heap.size∧wr.cell? ⟨g,o+k * 2,none⟩=some (.int .i64 x.who)∧wr.cell? ⟨g,o+k * 2+1,none⟩=some (.int .i64 x.v):=by
 rcases h with h | ⟨g,o,hs,h1,h2,hc⟩
 ·subst h;simp at hk
 ·have cc:∀ j,wr.cell? ⟨g,j,none⟩=w.cell? ⟨g,j,none⟩:=fun j=>hb.cell (p:=⟨g,j,none⟩) (by show g < _;omega)
  exact ⟨g,o,hs,by omega,(cc _).trans (hc k x hk).1,(cc _).trans (hc k x hk).2⟩
theorem rn_take {d:MD} {l:List ND} {k:Nat} {x:ND} (hk:l[k]? =some x):rnM d (l.take (k+1))=(stepM (rnM d (l.take k)) x.who x.v).1∧rnC d (l.take (k+1))=rnC d (l.take k)++[(stepM (rnM d (l.take k)) x.who x.v).2]:=by
 rw [List.take_add_one,hk,Option.toList_some,rnM_app,rnC_app]
 exact ⟨rfl,rfl⟩
theorem hidM1 {p:Prop} (h:p):Hid p:=h
theorem hidN {p:Prop} (h:p):Hid p:=h
end
section
set_option linter.unusedSimpArgs false
set_option linter.unusedVariables false
set_option maxRecDepth 100000
open Go.RowKit
def cellsP (x:I5):List Value:=[.int .i64 x.o,.int .i64 x.r,.int .i64 x.a,.int .i64 x.b,.int .i64 x.n]
def flatP:List I5→List Value
 | []=>[]
 | x::r=>cellsP x++flatP r
theorem flatP_len:∀ l:List I5,(flatP l).length=l.length * 5
 | []=>rfl
 | x::r=>by simp [flatP,cellsP,flatP_len r];omega
theorem flatP_snoc:∀ (l:List I5) (x:I5),flatP (l++[x])=flatP l++cellsP x
 | [],x=>by simp [flatP]
 | y::r,x=>by simp [flatP,flatP_snoc r x]
theorem flatP_at:∀ (l:List I5) (i j:Nat) (hi:i < l.length) (hj:j < 5),(flatP l)[i * 5+j]? =(cellsP (l.getD i z5))[j]?
 | [],i,j,hi,hj=>absurd hi (Nat.not_lt_zero _)
 | x::r,0,j,hi,hj=>by
  simp only [flatP,Nat.zero_mul,Nat.zero_add]
  rw [List.getElem?_append_left (by simp [cellsP];omega)]
  simp
 | x::r,i+1,j,hi,hj=>by
  have h5:(cellsP x).length=5:=rfl
  simp only [flatP]
  rw [List.getElem?_append_right (by rw [h5];omega),h5,show (i+1) * 5+j - 5=i * 5+j by omega,flatP_at r i j (by simp at hi;omega) hj]
  simp
def OwnP (w:World) (base:Nat) (v:Value) (b:List I5):Prop:=w.ownsRow base 71 5 v b.length (flatP b)
def OwnB (w:World) (base:Nat) (v:Value) (bs:List (List I5)):Prop:=
 ∃ xs:List Value,w.ownsRow base 53 1 v bs.length xs∧(∀ i,i < bs.length→OwnP w base (xs.getD i undef) (bs.getD i []))∧∀ i j k,i < bs.length→j < bs.length→i≠j→(xs.getD i undef).ownBlock=some k→(xs.getD j undef).ownBlock≠some k
theorem infoP:∃ i,Tryz.prog.info? 71=some i∧i.zero=some (.agg #[.int .i64 0,.int .i64 0,.int .i64 0,.int .i64 0,.int .i64 0])∧i.size=5∧i.bytes=40:=⟨_,rfl,rfl,rfl,rfl⟩
theorem ownKeep {w w':World} {base:Nat} {e:TypeId} {size n:Nat} {v:Value} {xs:List Value} (h:w.ownsRow base e size v n xs) (hb:∀ k,v.ownBlock=some k→w'.heap[k]? =w.heap[k]?):w'.ownsRow base e size v n xs:=by
 obtain ⟨h1,h2⟩:=h
 refine ⟨h1,?_⟩
 rcases h2 with h2 | ⟨g,cap,cur,rfl,b0,c,d⟩
 ·exact .inl h2
 ·exact .inr ⟨g,cap,cur,rfl,b0,(hb g rfl).trans c,d⟩
theorem ownLow {w:World} {b b':Nat} {e:TypeId} {size n:Nat} {v:Value} {xs:List Value} (h:w.ownsRow b e size v n xs) (hb:b'≤b):w.ownsRow b' e size v n xs:=by
 obtain ⟨h1,h2⟩:=h
 refine ⟨h1,?_⟩
 rcases h2 with h2 | ⟨g,cap,cur,a,b0,c,d⟩
 ·exact .inl h2
 ·exact .inr ⟨g,cap,cur,a,Nat.le_trans hb b0,c,d⟩
theorem ownType {w:World} {base base':Nat} {e e':TypeId} {size size' n n':Nat} {v v':Value} {xs xs':List Value} (h:w.ownsRow base e size v n xs) (h':w.ownsRow base' e' size' v' n' xs') (hne:e≠e') {k:Nat} (hk:v.ownBlock=some k):v'.ownBlock≠some k:=by
 intro hk'
 rcases h.2 with ⟨rfl,-⟩ | ⟨g,cap,cur,rfl,-,c,-⟩
 ·cases hk
 rcases h'.2 with ⟨rfl,-⟩ | ⟨g',cap',cur',rfl,-,c',-⟩
 ·cases hk'
 ·simp only [Value.ownBlock,Option.some.injEq] at hk hk'
  subst hk
  subst hk'
  rw [c] at c'
  injection c' with c'
  injection c' with c1 c2
  exact hne c2
theorem OwnB.keep {w w':World} {base:Nat} {v:Value} {bs:List (List I5)} (h:OwnB w base v bs) (hb:∀ k,base≤k→k < w.heap.size→w'.heap[k]? =w.heap[k]?):OwnB w' base v bs:=by
 obtain ⟨xs,h1,h2,h3⟩:=h
 exact ⟨xs,ownKeep h1 (fun k hk=>hb k (World.ownsRow.lt h1 _ hk).1 (World.ownsRow.lt h1 _ hk).2),fun i hi=>ownKeep (h2 i hi) (fun k hk=>hb k (World.ownsRow.lt (h2 i hi) _ hk).1 (World.ownsRow.lt (h2 i hi) _ hk).2),h3⟩
theorem OwnB.nil (w:World) (base:Nat):OwnB w base (.slice none 0 0) []:=⟨[],World.ownsRow_nil _ _ _ _,fun i hi=>absurd hi (Nat.not_lt_zero _),fun i j k hi=>absurd hi (Nat.not_lt_zero _)⟩
theorem OwnB.sl {w:World} {base:Nat} {v:Value} {bs:List (List I5)} (h:OwnB w base v bs):∃ s c,v=.slice s bs.length c:=by
 obtain ⟨xs,h,-⟩:=h
 rcases h.2 with ⟨h1,h2⟩ | ⟨g,cap,cur,a,-⟩
 ·exact ⟨none,0,by rw [h1,h2]⟩
 ·exact ⟨_,_,a⟩
theorem OwnB.low {w:World} {b b':Nat} {v:Value} {bs:List (List I5)} (h:OwnB w b v bs) (hb:b'≤b):OwnB w b' v bs:=by
 obtain ⟨xs,h1,h2,h3⟩:=h
 exact ⟨xs,ownLow h1 hb,fun i hi=>ownLow (h2 i hi) hb,h3⟩
theorem getD_snoc {α:Type} (xs:List α) (y d:α) (i:Nat):(xs++[y]).getD i d=if i < xs.length then xs.getD i d else if i=xs.length then y else d:=by
 by_cases h:i < xs.length
 ·rw [if_pos h];simp [List.getD_eq_getElem?_getD,List.getElem?_append_left h]
 ·rw [if_neg h]
  by_cases h2:i=xs.length
  ·subst h2;simp [List.getD_eq_getElem?_getD]
  ·rw [if_neg h2,List.getD_eq_getElem?_getD,List.getElem?_eq_none (by simp;omega)];rfl
end
section
set_option linter.unusedSimpArgs false
set_option linter.unusedVariables false
set_option maxRecDepth 100000
open Go.RowKit
theorem OwnN.ints {w:World} {base:Nat} {v:Value} {l:List Int} (h:OwnN w base v l):∃ s c,v=.slice s l.length c∧IntsR w base w.heap.size s l:=by
 rcases Nat.eq_zero_or_pos l.length with h0 | hpos
 ·rcases h.2 with ⟨h1,h2⟩ | ⟨g,cap,cur,a,-⟩
  ·exact ⟨none,0,by rw [h1,h2],.inl (List.length_eq_zero_iff.1 h0)⟩
  ·exact ⟨_,_,a,.inl (List.length_eq_zero_iff.1 h0)⟩
 ·obtain ⟨g,cap,rfl,-⟩:=World.ownsRow.form h hpos
  have hlt:=World.ownsRow.lt h g rfl
  refine ⟨_,_,rfl,.inr ⟨g,0,rfl,hlt.1,hlt.2,fun i hi=>?_⟩⟩
  rw [Nat.zero_add,World.ownsRow.cellAt h i (by omega),List.getElem?_map,List.getD_eq_getElem?_getD,List.getElem?_eq_getElem hi]
  rfl
theorem OwnP.ins {w:World} {base:Nat} {v:Value} {l:List I5} (h:OwnP w base v l):∃ s c,v=.slice s l.length c∧InsR w base w.heap.size s l:=by
 rcases Nat.eq_zero_or_pos l.length with h0 | hpos
 ·rcases h.2 with ⟨h1,h2⟩ | ⟨g,cap,cur,a,-⟩
  ·exact ⟨none,0,by rw [h1,h2],.inl (List.length_eq_zero_iff.1 h0)⟩
  ·exact ⟨_,_,a,.inl (List.length_eq_zero_iff.1 h0)⟩
 ·obtain ⟨g,cap,rfl,-⟩:=World.ownsRow.form h hpos
  have hlt:=World.ownsRow.lt h g rfl
  refine ⟨_,_,rfl,.inr ⟨g,0,rfl,hlt.1,hlt.2,fun i hi=>?_⟩⟩
  have hc:∀ j,j < 5→w.cell? ⟨g,i * 5+j,none⟩=(cellsP (l.getD i z5))[j]? :=fun j hj=>by
   rw [World.ownsRow.cellAt h (i * 5+j) (by omega)]
   exact flatP_at l i j hi hj
  rw [Nat.zero_add]
  exact ⟨hc 0 (by omega),hc 1 (by omega),hc 2 (by omega),hc 3 (by omega),hc 4 (by omega)⟩
theorem OwnB.bods {w:World} {base:Nat} {v:Value} {l:List (List I5)} (h:OwnB w base v l):∃ s c,v=.slice s l.length c∧BodsR w base w.heap.size s l:=by
 obtain ⟨xs,h1,h2,-⟩:=h
 rcases Nat.eq_zero_or_pos l.length with h0 | hpos
 ·rcases h1.2 with ⟨h1,h2⟩ | ⟨g,cap,cur,a,-⟩
  ·exact ⟨none,0,by rw [h1,h2],.inl (List.length_eq_zero_iff.1 h0)⟩
  ·exact ⟨_,_,a,.inl (List.length_eq_zero_iff.1 h0)⟩
 ·obtain ⟨g,cap,rfl,-⟩:=World.ownsRow.form h1 hpos
  have hlt:=World.ownsRow.lt h1 g rfl
  have hxl:xs.length=l.length:=by have:=h1.1;omega
  refine ⟨_,_,rfl,.inr ⟨g,0,rfl,hlt.1,hlt.2,fun i hi=>?_⟩⟩
  obtain ⟨s,c,e,hi'⟩:=OwnP.ins (h2 i hi)
  refine ⟨s,c,?_,hi'⟩
  rw [Nat.zero_add,World.ownsRow.cellAt h1 i (by omega),← e,List.getD_eq_getElem?_getD,List.getElem?_eq_getElem (by omega)]
  rfl
theorem OwnB.prog {w:World} {base:Nat} {v v':Value} {p:PD} (h:OwnN w base v p.caps) (h':OwnB w base v' p.bods):∃ s c s' c',v=.slice s p.caps.length c∧v'=.slice s' p.bods.length c'∧ProgR w base w.heap.size s s' p:=by
 obtain ⟨s,c,e,a⟩:=h.ints
 obtain ⟨s',c',e',a'⟩:=h'.bods
 exact ⟨s,c,s',c',e,e',a,a'⟩
end
section
set_option linter.unusedSimpArgs false
set_option linter.unusedVariables false
set_option maxRecDepth 100000
open Go.RowKit
def zRow:List WD:=[⟨0,List.replicate 24 0⟩]
def newM (k:Nat):List (List WD):=List.replicate k zRow
theorem newM_len (k:Nat):(newM k).length=k:=by simp [newM]
theorem newM_succ (k:Nat):newM (k+1)=newM k++[zRow]:=List.replicate_succ'
/- the three blocks of a new row -/
def W3 (w:World):World:=((w.alloc (.cells (madeCells #[.int .i64 0] 24) 3)).alloc (.cells #[.int .i64 0,.slice (some ⟨w.heap.size,0,none⟩) 24 24] 100)).alloc (.cells #[.slice (some ⟨w.heap.size+1,0,none⟩) 1 1] 101)
theorem W3_below (w:World):Below w.heap.size w (W3 w):=(((Below.refl _ _).alloc (Nat.le_refl _) _).alloc (by simp) _).alloc (by simp;omega) _
theorem W3_size (w:World):(W3 w).heap.size=w.heap.size+3:=by simp [W3]
theorem W3_row (w:World):RO (W3 w) w.heap.size (W3 w).heap.size ⟨some ⟨w.heap.size+1,0,none⟩,1,[⟨some ⟨w.heap.size,0,none⟩,24,24⟩]⟩ zRow:=by
 have h:=RO.push (w:=W3 w) (w':=W3 w) (lo:=w.heap.size) (hi:=(W3 w).heap.size) (G:=w.heap.size+1) (O:=0) (c:=1) (vs:=[]) (l:=[]) ⟨some ⟨w.heap.size,0,none⟩,24,24⟩ ⟨0,List.replicate 24 0⟩ (RO.nil _ _ _ _ _) ⟨by omega,by rw [W3_size];omega⟩ (fun a _ _=>⟨rfl,rfl⟩) (by simp [W3,go_sem]) (by simp [W3,go_sem]) (by simp [W3,go_sem]) ?_ ?_ (vAs_nodup (g:=w.heap.size) (o:=0) rfl) (fun x hx=>by simp at hx)
 ·exact h
 ·refine ⟨by simp,.inr ⟨w.heap.size,0,rfl,Nat.le_refl _,by rw [W3_size];omega,fun i hi'=>?_⟩⟩
  simp at hi'
  rw [Nat.zero_add]
  refine ⟨?_,by simp [W3,go_sem]⟩
  have e:(W3 w).cell? ⟨w.heap.size,i,none⟩=(madeCells #[.int .i64 0] 24)[i]? :=by simp [W3,go_sem]
  show _=some (Value.int .i64 ((List.replicate 24 (0:Int)).getD i 0))
  rw [e,← Array.getElem?_toList,toList_madeCells_one,List.getElem?_replicate,if_pos hi',List.getD_eq_getElem?_getD,List.getElem?_replicate,if_pos hi']
  rfl
 ·intro a ha
  obtain ⟨i,-,rfl⟩:=mem_vAs.1 ha
  show w.heap.size≠w.heap.size+1
  omega
end
section
set_option linter.unusedSimpArgs false
set_option linter.unusedVariables false
set_option maxRecDepth 100000
open Go.RowKit
/- new cores -/
def zKD:KD:=⟨0,List.replicate 8 0,List.replicate 24 0,0⟩
theorem made0 {w:World} {base n:Nat} (hb:base≤w.heap.size) (hn:n≤1048576):OwnN (w.alloc (.cells (madeCells #[.int .i64 0] n) 3)) base (.slice (some ⟨w.heap.size,0,none⟩) n n) (List.replicate n 0):=by
 have h0:=World.ownsRow_lit (base:=base) (e:=3) (size:=1) w (madeCells #[.int .i64 0] n) n hb (by unfold maxLen;omega) (by rw [size_madeCells,Nat.mul_one])
 rw [toList_madeCells_one] at h0
 show World.ownsRow _ _ _ _ _ _ _
 rw [List.length_replicate,List.map_replicate]
 exact h0
def WA (w:World):World:=(w.alloc (.cells (madeCells #[.int .i64 0] 8) 3)).alloc (.cells (madeCells #[.int .i64 0] 24) 3)
def WB (w:World):World:=(w.alloc (.cells (madeCells #[.int .i64 0] 24) 3)).alloc (.cells (madeCells #[.int .i64 0] 8) 3)
def yA (w:World):KV:=⟨zKD,.slice (some ⟨w.heap.size,0,none⟩) 8 8,.slice (some ⟨w.heap.size+1,0,none⟩) 24 24⟩
def yB (w:World):KV:=⟨zKD,.slice (some ⟨w.heap.size+1,0,none⟩) 8 8,.slice (some ⟨w.heap.size,0,none⟩) 24 24⟩
theorem WA_below (w:World):Below w.heap.size w (WA w):=((Below.refl _ _).alloc (Nat.le_refl _) _).alloc (by simp) _
theorem WB_below (w:World):Below w.heap.size w (WB w):=((Below.refl _ _).alloc (Nat.le_refl _) _).alloc (by simp) _
theorem WA_size (w:World):(WA w).heap.size=w.heap.size+2:=by simp [WA]
theorem WB_size (w:World):(WB w).heap.size=w.heap.size+2:=by simp [WB]
theorem WA_own {w:World} {base:Nat} (hb:base≤w.heap.size):OwnN (WA w) base (yA w).r (yA w).d.regs∧OwnN (WA w) base (yA w).v (yA w).d.vw:=by
 refine ⟨ownKeep' (made0 (n:=8) hb (by omega)) (fun k hk=>Below.heap_alloc _ _ _ ?_),?_⟩
 ·have hk2:some w.heap.size=some k:=hk
  injection hk2 with hk2
  simp
  omega
 ·have h:=made0 (w:=w.alloc (.cells (madeCells #[.int .i64 0] 8) 3)) (base:=base) (n:=24) (by simp;omega) (by omega)
  rw [World.size_alloc] at h
  exact h
theorem WB_own {w:World} {base:Nat} (hb:base≤w.heap.size):OwnN (WB w) base (yB w).r (yB w).d.regs∧OwnN (WB w) base (yB w).v (yB w).d.vw:=by
 refine ⟨?_,ownKeep' (made0 (n:=24) hb (by omega)) (fun k hk=>Below.heap_alloc _ _ _ ?_)⟩
 ·have h:=made0 (w:=w.alloc (.cells (madeCells #[.int .i64 0] 24) 3)) (base:=base) (n:=8) (by simp;omega) (by omega)
  rw [World.size_alloc] at h
  exact h
 ·have hk2:some w.heap.size=some k:=hk
  injection hk2 with hk2
  simp
  omega
theorem new_sep {w:World} {base:Nat} {v:Value} {L:List KV} (h:OwnKx117 w base v L) {y:KV} (hy:y=yA w∨y=yB w):∀ (i:Nat) (z:KV) (k:Nat),L[i]? =some z→(y.r.ownBlock=some k∨y.v.ownBlock=some k)→¬ (z.r.ownBlock=some k∨z.v.ownBlock=some k):=fun i z k hz hk hk'=>by
 have h1:w.heap.size≤k:=by
  rcases hy with rfl | rfl<;>rcases hk with hk | hk
  ·have e:some w.heap.size=some k:=hk
   injection e with e;omega
  ·have e:some (w.heap.size+1)=some k:=hk
   injection e with e;omega
  ·have e:some (w.heap.size+1)=some k:=hk
   injection e with e;omega
  ·have e:some w.heap.size=some k:=hk
   injection e with e;omega
 rcases hk' with hk' | hk'
 ·have:=(World.ownsRow.lt (h.inn i z hz).1 _ hk').2
  omega
 ·have:=(World.ownsRow.lt (h.inn i z hz).2 _ hk').2
  omega
theorem new_two {w:World} {y:KV} (hy:y=yA w∨y=yB w):∀ k,y.r.ownBlock=some k→y.v.ownBlock≠some k:=fun k hk hk'=>by
 rcases hy with rfl | rfl
 ·have e:some w.heap.size=some k:=hk
  have e':some (w.heap.size+1)=some k:=hk'
  injection e with e
  injection e' with e'
  omega
 ·have e:some (w.heap.size+1)=some k:=hk
  have e':some w.heap.size=some k:=hk'
  injection e with e
  injection e' with e'
  omega
def newMd (l:List (List I5)):MD:=⟨l,List.replicate l.length zKD,newM 24,[]⟩
def newMa (l:List (List I5)):MD:=if codesB l then newMd l else noMd
theorem view_new:viewB (newM 24) (List.replicate 24 0)=true:=by decide+kernel
theorem mem_new:memB (newM 24)=true:=by decide+kernel
theorem code_pos {x:List I5} (h:codeB x=true):1≤x.length:=by
 unfold codeB at h
 simp at h
 omega
theorem mach_new (l:List (List I5)):machB (newMd l)=codesB l:=by
 cases hc:codesB l with
 | false=>unfold machB;simp [newMd,hc]
 | true=>
  have ha:l.all codeB=true:=by unfold codesB at hc;simp at hc ⊢;exact hc.2
  have hz:coresB (newM 24) (List.replicate l.length zKD) l=true:=by
   unfold coresB
   rw [decide_eq_true (by simp)]
   simp only [Bool.true_and]
   refine all_yes (fun i t ht=>?_)
   obtain ⟨h1,h2⟩:=List.getElem?_zip_eq_some.1 ht
   have e1:t.1=zKD:=by
    rw [List.getElem?_replicate] at h1
    split at h1
    ·injection h1 with h1;exact h1.symm
    ·cases h1
   have hp:=code_pos (List.all_eq_true.1 ha t.2 (List.mem_of_getElem? h2))
   unfold coreB
   rw [e1]
   simp only [zKD,List.length_replicate]
   rw [view_new]
   simp [Plain.inB,Plain.oneB]
   omega
  have ht:trB [] (List.replicate l.length zKD).length=true:=by simp [trB]
  unfold machB
  simp only [newMd]
  rw [hc,hz,ht,mem_new]
  rfl
theorem szK_new:∀ n,szK (List.replicate n zKD)=n * 32
 | 0=>rfl
 | n+1=>by
  rw [List.replicate_succ]
  show zKD.regs.length+zKD.vw.length+szK (List.replicate n zKD)=(n+1) * 32
  rw [szK_new n]
  show 8+24+n * 32=(n+1) * 32
  omega
theorem szR_new:szR (newM 24)=600:=by decide+kernel
theorem fits_new {l:List (List I5)} (h:l.length+szC l≤1048576) (h4:l.length≤4):MaFits (newMd l):=by
 refine ⟨h,?_,?_,by simp [newMd]⟩
 ·simp only [newMd,szK_new,List.length_replicate]
  omega
 ·simp only [newMd,szR_new,newM_len]
  omega
theorem MaO.of3 {w:World} {lo hi a1 b1 a2 b2 a3 b3:Nat} {p:MP} {d:MD} (hc:GO w a1 b1 p.s1 TC p.RC (d.codes.map codeV)) (hm:MO w a2 b2 p.s3 p.S d.mem) (hk:GO w a3 b3 p.s2 TK p.RK (d.cores.map coreV)) (ht:d.tr=[]) (l1:lo≤a1) (l2:b1≤a2) (l3:b2≤a3) (l4:b3≤hi) (l5:a1≤b1:=by omega) (l6:a2≤b2:=by omega) (l7:a3≤b3:=by omega):MaO w lo hi p d:=by
 have hv:vAs (p.x4 d)=[]:=by simp [MP.x4,VS.wide,vAs,ht]
 refine ⟨hc.mono (by omega) (by omega),hk.mono (by omega) (by omega),hm.mono (by omega) (by omega),⟨by simp [MP.x4,VS.wide,ht,fl2],.inl (by simp [ht,fl2])⟩,?_⟩
 unfold MP.as
 rw [hv,List.append_nil]
 refine List.nodup_append.2 ⟨hc.d,List.nodup_append.2 ⟨hk.d,hm.d,fun a ha b hb e=>?_⟩,fun a ha b hb e=>?_⟩
 ·subst e
  have:=(hk.blk ha).1
  have:=(hm.blk hb).2
  omega
 ·subst e
  have:=(hc.blk ha).2
  rcases List.mem_append.1 hb with hb | hb
  ·have:=(hk.blk hb).1
   omega
  ·have:=(hm.blk hb).1
   omega
end
section
set_option linter.unusedSimpArgs false
set_option linter.unusedVariables false
set_option maxRecDepth 100000
open Go.RowKit
set_option maxRecDepth 100000 in
set_option maxHeartbeats 1000000 in
theorem specCode_some (g off c B : Nat) (l : List I5) (w : World) (hg : g < B) (hc : ∀ i, i < l.length → At5 w g (off + i * 5) (l.getD i z5)) (hB : B ≤ w.heap.size) (hl : l.length ≤ 1048576) :
  Calls Tryz.prog 45 #[.slice (some ⟨g,off,none⟩) l.length c] w fun e w'=>e=.returned (.bool (codeB l))∧Below w.heap.size w w':=by
 have HC:Hid (∀ i,i < l.length→At5 w g (off+i * 5) (l.getD i z5)):=hc
 clear hc
 go_enter Tryz.func45,Tryz.ntmps45
 cases h1:Plain.inB (l.length:Int) 1 800
 ·have F:Hid (codeB l=false):=code_short h1
  go_wp2_with (go_at_call 13;refine (l1In_is _ _ _ _ _ h1).mono ?_;rintro e w' ⟨rfl,rfl⟩)
  go_ret
  exact ⟨by rw [F.out];rfl,Below.refl _ _⟩
 have hlen:1≤l.length∧l.length≤800:=by simp [Plain.inB] at h1;omega
 go_wp2_with (go_at_call 13;refine (l1In_is _ _ _ _ _ h1).mono ?_;rintro e w' ⟨rfl,hw⟩;have hw':=hw.symm;clear hw;subst hw')
 clear h1
 go_loopw [4] (fun i wr=>∃ k:Nat,k≤l.length∧i=.int .i64 k∧Below w.heap.size w wr∧(∀ i,i < k→stX (l.getD i z5) l.length=true)) (fun i _=>l.length - (intOf i).toNat)
 case atStart=>exact ⟨0,Nat.zero_le _,rfl,Below.refl _ _,fun i hi=>absurd hi (Nat.not_lt_zero _)⟩
 case round=>
  obtain ⟨k,hk,rfl,hb,hd⟩:=hrel
  have HB:Hid (Below w.heap.size w wr):=hb
  have HD:Hid (∀ i,i < k→stX (l.getD i z5) l.length=true):=hd
  clear hb hd
  by_cases hlt:k < l.length
  ·obtain ⟨f0,f1,f2,f3,f4⟩:=(HC.out k hlt).keep HB.out (by omega)
   cases hv:stX (l.getD k z5) l.length
   ·have F:Hid (codeB l=false):=code_no hlt hv
    generalize l.getD k z5=x at f0 f1 f2 f3 f4 hv
    obtain ⟨xo,xr,xa,xb,xn⟩:=x
    have V:Hid (Plain.stepB xo xr xa xb xn l.length=false):=hv
    clear hv
    have b0:(0:Int)≤(k:Int):=by omega
    have b1:(k:Int) < (l.length:Int):=by omega
    go_wp2_with fail
    refine (specStepOk_any _ _ _ _ _ _ _).mono ?_
    rintro e w1 ⟨rfl,hb1⟩
    rw [V.out]
    have hs1:=HB.out.size
    go_wp2
    go_ret
    exact ⟨by rw [F.out];rfl,HB.out.trans (hb1.mono hs1)⟩
   ·have HV:Hid (stX (l.getD k z5) l.length=true):=hv
    generalize l.getD k z5=x at f0 f1 f2 f3 f4 hv
    obtain ⟨xo,xr,xa,xb,xn⟩:=x
    have V:Hid (Plain.stepB xo xr xa xb xn l.length=true):=hv
    clear hv
    have b0:(0:Int)≤(k:Int):=by omega
    have b1:(k:Int) < (l.length:Int):=by omega
    go_wp2_with fail
    refine (specStepOk_any _ _ _ _ _ _ _).mono ?_
    rintro e w1 ⟨rfl,hb1⟩
    rw [V.out]
    have hs1:=HB.out.size
    have HB1:Hid (Below wr.heap.size wr w1):=hb1
    clear hb1
    go_wp2
    go_roundw
    case rel=>
     refine ⟨k+1,by omega,by go_num,HB.out.trans (HB1.out.mono hs1),?_⟩
     intro i hi
     by_cases e:i=k
     ·subst e;exact HV.out
     ·exact HD.out i (by omega)
    case measure=>simp [intOf];omega
  ·have:k=l.length:=by omega
   subst this
   have F:Hid (codeB l=lastBx44 l):=by
    show _=_
    rw [code_all HD.out,decide_eq_true hlen]
    simp
   obtain ⟨f0,-⟩:=(HC.out (l.length - 1) (by omega)).keep HB.out (by omega)
   generalize hx:(l.getD (l.length - 1) z5).o=x at f0
   have FX:Hid (lastBx44 l=Plain.endB x):=by show _=_;unfold lastBx44;rw [hx]
   clear hx
   have b0:(1:Int)≤(l.length:Int):=by omega
   have b1:(l.length:Int) - 1 < (l.length:Int):=by omega
   by_cases x10:x=10
   ·subst x10
    go_wp2
    go_ret
    exact ⟨ret_bool (by rw [F.out,FX.out];rfl),HB.out⟩
   by_cases x12:x=12
   ·subst x12
    go_wp2
    go_ret
    exact ⟨ret_bool (by rw [F.out,FX.out];rfl),HB.out⟩
   have y10:(x==10)=false:=by simpa using x10
   have y12:(x==12)=false:=by simpa using x12
   go_wp2
   go_ret
   exact ⟨ret_bool (by rw [F.out,FX.out,Bool.eq_iff_iff];simp [Plain.endB,x10,x12]),HB.out⟩
theorem specCode_any (s : Option Addr) (c B : Nat) (l : List I5) (w : World) (h : InsB w B s l) (hB : B ≤ w.heap.size) (hl : l.length ≤ 1048576) :
  Calls Tryz.prog 45 #[.slice s l.length c] w fun e w'=>e=.returned (.bool (codeB l))∧Below w.heap.size w w':=by
 rcases h with rfl | ⟨g,off,rfl,hg,hc⟩
 ·have h1:Plain.inB ((0:Nat):Int) 1 800=false:=by decide
  have h2:Plain.inB 0 1 800=false:=by decide
  have F:Hid (codeB []=false):=code_short (l:=[]) h1
  clear h1
  go_enter Tryz.func45,Tryz.ntmps45
  go_wp2_with (go_at_call 13;refine (l1In_is _ _ _ _ _ h2).mono ?_;rintro e w' ⟨rfl,rfl⟩)
  go_ret
  exact ⟨by rw [F.out];rfl,Below.refl _ _⟩
 ·exact specCode_some g off c B l w hg hc hB hl
end
end Go.Proofs.YtkhjhibigldcgaaGreat
