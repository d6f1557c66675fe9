/- What a step of memory of the specification stands on. No condition. The box of a walk: of its own type, so no block of a machine's rows. No condition. A runner of the program: its cells; where it stops and goes on. No condition. MemoryNew of the program and of the specification. No condition. A region that draws its order, in which the last operation alone writes and waits for all others: one walk of these, in the order of the text, and then that one. No condition. What a runner of the program reckons. No condition. The cell that a runner of the program goes for. No condition. -/
import Derived.Test.YtlbeploopclegaaGreatQG00
import Derived.Test.YtlbeploopclegaaGreatQG05
import Derived.Test.YtlbeploopclegaaGreatQG01
import Derived.Test.YtlbeploopclegaaGreatQG06
import Derived.Test.YtlbeploopclegaaGreatQG11
import Derived.Test.YtlbeploopclegaaGreatQG10
import Derived.Test.YtlbeploopclegaaGreatQG12
import Derived.Test.YtlbeploopclegaaGreatQG02
import Derived.Test.YtlbeploopclegaaGreatQMemStoreS
import Derived.Test.YtlbeploopclegaaGreatQKOkB
import Derived.Test.YtlbeploopclegaaGreatQC7Leaf
namespace Go.Proofs.YtlbeploopclegaaGreat
section
set_option linter.unusedSimpArgs false
set_option linter.unusedVariables false
set_option maxRecDepth 100000
open Go.RowKit
theorem own_tb {w:World} {base size n b:Nat} {e T:TypeId} {v:Value} {xs:List Value} (h:w.ownsRow base e size v n xs) (he:e≠T) (hb:TyB w b T):v.ownBlock≠some b:=fun hk=>by
 obtain ⟨cs,f,c⟩:=own_ty h hk
 exact he (TyB.ne ⟨cs,f,c⟩ hb)
/- the boxes of a step of memory: machine, pick, step, answer, core -/
structure Bm5 (V:World) (z:Nat) (m0 m1 m2 m3 x0 x1 s0 s1 s2 s3 s4 k0 k1 k2 k3:Value):Prop where
 m0:V.cell? ⟨z,0,none⟩=some m0
 m1:V.cell? ⟨z,1,none⟩=some m1
 m2:V.cell? ⟨z,2,none⟩=some m2
 m3:V.cell? ⟨z,3,none⟩=some m3
 x0:V.cell? ⟨z+1,0,none⟩=some x0
 x1:V.cell? ⟨z+1,1,none⟩=some x1
 s0:V.cell? ⟨z+1+1,0,none⟩=some s0
 s1:V.cell? ⟨z+1+1,1,none⟩=some s1
 s2:V.cell? ⟨z+1+1,2,none⟩=some s2
 s3:V.cell? ⟨z+1+1,3,none⟩=some s3
 s4:V.cell? ⟨z+1+1,4,none⟩=some s4
 a0:V.cell? ⟨z+1+1+1,0,none⟩=some (.slice none 0 0)
 a1:V.cell? ⟨z+1+1+1,1,none⟩=some (.slice none 0 0)
 a2:V.cell? ⟨z+1+1+1,2,none⟩=some (.slice none 0 0)
 a3:V.cell? ⟨z+1+1+1,3,none⟩=some (.slice none 0 0)
 k0:V.cell? ⟨z+1+1+1+1,0,none⟩=some k0
 k1:V.cell? ⟨z+1+1+1+1,1,none⟩=some k1
 k2:V.cell? ⟨z+1+1+1+1,2,none⟩=some k2
 k3:V.cell? ⟨z+1+1+1+1,3,none⟩=some k3
 fm:∀ j,V.frozen? ⟨z,j,none⟩=false
 fa:∀ j,V.frozen? ⟨z+1+1+1,j,none⟩=false
 fk:∀ j,V.frozen? ⟨z+1+1+1+1,j,none⟩=false
 bt:BxT V z∧BxT V (z+1+1+1)∧TyB V (z+1+1+1+1) 53
 z:z+1+1+1+1 < V.heap.size
theorem Bm5.keep {V V':World} {z:Nat} {m0 m1 m2 m3 x0 x1 s0 s1 s2 s3 s4 k0 k1 k2 k3:Value} (h:Bm5 V z m0 m1 m2 m3 x0 x1 s0 s1 s2 s3 s4 k0 k1 k2 k3) (hb:∀ b,z≤b→b < V.heap.size→V'.heap[b]? =V.heap[b]?) (hs:V.heap.size≤V'.heap.size):Bm5 V' z m0 m1 m2 m3 x0 x1 s0 s1 s2 s3 s4 k0 k1 k2 k3:=by
 have hz:=h.z
 have c0:∀ j,V'.cell? ⟨z,j,none⟩=V.cell? ⟨z,j,none⟩:=fun j=>World.cell?_of_block (hb z (by omega) (by omega))
 have c1:∀ j,V'.cell? ⟨z+1,j,none⟩=V.cell? ⟨z+1,j,none⟩:=fun j=>World.cell?_of_block (hb (z+1) (by omega) (by omega))
 have c2:∀ j,V'.cell? ⟨z+1+1,j,none⟩=V.cell? ⟨z+1+1,j,none⟩:=fun j=>World.cell?_of_block (hb (z+1+1) (by omega) (by omega))
 have c3:∀ j,V'.cell? ⟨z+1+1+1,j,none⟩=V.cell? ⟨z+1+1+1,j,none⟩:=fun j=>World.cell?_of_block (hb (z+1+1+1) (by omega) (by omega))
 have c4:∀ j,V'.cell? ⟨z+1+1+1+1,j,none⟩=V.cell? ⟨z+1+1+1+1,j,none⟩:=fun j=>World.cell?_of_block (hb (z+1+1+1+1) (by omega) (by omega))
 exact ⟨(c0 _).trans h.m0,(c0 _).trans h.m1,(c0 _).trans h.m2,(c0 _).trans h.m3,(c1 _).trans h.x0,(c1 _).trans h.x1,(c2 _).trans h.s0,(c2 _).trans h.s1,(c2 _).trans h.s2,(c2 _).trans h.s3,(c2 _).trans h.s4,(c3 _).trans h.a0,(c3 _).trans h.a1,(c3 _).trans h.a2,(c3 _).trans h.a3,(c4 _).trans h.k0,(c4 _).trans h.k1,(c4 _).trans h.k2,(c4 _).trans h.k3,fun j=>(World.frozen?_of_block (hb z (by omega) (by omega))).trans (h.fm j),fun j=>(World.frozen?_of_block (hb (z+1+1+1) (by omega) (by omega))).trans (h.fa j),fun j=>(World.frozen?_of_block (hb (z+1+1+1+1) (by omega) (by omega))).trans (h.fk j),⟨h.bt.1.same (hb z (by omega) (by omega)),h.bt.2.1.same (hb (z+1+1+1) (by omega) (by omega)),by obtain ⟨cs,f,c⟩:=h.bt.2.2;exact ⟨cs,f,(hb (z+1+1+1+1) (by omega) (by omega)).trans c⟩⟩,by omega⟩
theorem boxesM {w V : World} {m0 m1 m2 m3 x0 x1 k0 k1 k2 k3 s0 s1 s2 s3 s4 : Value} {T1 T2 : TypeId}
  (hV:((((w.alloc (.cells #[m0,m1,m2,m3] 38)).alloc (.cells #[x0,x1] T1)).alloc (.cells #[s0,s1,s2,s3,s4] T2)).alloc (.cells #[.slice none 0 0,.slice none 0 0,.slice none 0 0,.slice none 0 0] 38)).alloc (.cells #[k0,k1,k2,k3] 53)=V):
  Bm5 V w.heap.size m0 m1 m2 m3 x0 x1 s0 s1 s2 s3 s4 k0 k1 k2 k3∧Below w.heap.size w V:=by
 subst hV
 refine ⟨⟨?_,?_,?_,?_,?_,?_,?_,?_,?_,?_,?_,?_,?_,?_,?_,?_,?_,?_,?_,fun j=>?_,fun j=>?_,fun j=>?_,⟨?_,?_,?_⟩,?_⟩,((((((Below.refl _ _).alloc (Nat.le_refl _) _).alloc (by simp) _).alloc (by simp;omega) _).alloc (by simp;omega) _).alloc (by simp;omega) _)⟩
 any_goals (simp [go_sem];done)
 ·exact BxT.alloc (BxT.alloc (BxT.alloc (BxT.alloc (BxT.new w _) _) _) _) _
 ·have e:(((w.alloc (.cells #[m0,m1,m2,m3] 38)).alloc (.cells #[x0,x1] T1)).alloc (.cells #[s0,s1,s2,s3,s4] T2)).heap.size=w.heap.size+1+1+1:=by simp
  rw [← e]
  exact BxT.alloc (BxT.new _ _) _
 ·have e:((((w.alloc (.cells #[m0,m1,m2,m3] 38)).alloc (.cells #[x0,x1] T1)).alloc (.cells #[s0,s1,s2,s3,s4] T2)).alloc (.cells #[.slice none 0 0,.slice none 0 0,.slice none 0 0,.slice none 0 0] 38)).heap.size=w.heap.size+1+1+1+1:=by simp
  rw [← e]
  exact ⟨_,_,heap_alloc_new _ _⟩
theorem setCell_same {w:World} {g j:Nat} {v:Value} (h:w.cell? ⟨g,j,none⟩=some v) (b:Nat):(w.setCell ⟨g,j,none⟩ v).heap[b]? =w.heap[b]? :=by
 by_cases e:b=g
 ·subst e
  simp only [World.setCell,Array.getElem?_modify]
  unfold World.cell? at h
  cases hb:w.heap[b]? with
  | none=>simp
  | some o=>
   rw [hb] at h
   cases o with
   | cells cs t f=>
    simp only at h
    simp
    refine Array.ext (by simp) fun i h1 h2=>?_
    by_cases ei:j=i
    ·subst ei
     rw [Array.getElem_setIfInBounds_self]
     have:=(Array.getElem?_eq_some_iff.1 (by simpa using h)).2
     exact this.symm
    ·rw [Array.getElem_setIfInBounds_ne _ ei]
   | _=>simp
 ·exact Below.heap_setCell _ _ _ b e
/- a core's four cells stored, its view another one -/
theorem MQ.put4 {Hq : Nat → Prop} {w F : World} {B g c N : Nat} {vc vm vt r v : Value} {LC : List CV} {LK : List KV} {S : List RS} {d : MD} {i : Nat} {k : KD} (h : MQ w B Hq vc (.slice (some ⟨g, 0, none⟩) N c) vm vt LC LK S d) (hN : LK.length = N) (hx : LK[i]? = some ⟨k, r, v⟩) (u : Value) (l : List Int) (hu : OwnN w B u l) (hf : ∀ q, u.ownBlock = some q → ((∀ (j : Nat) (z : KV), LK[j]? = some z → ¬ (z.r.ownBlock = some q ∨ z.v.ownBlock = some q)) ∧ ∀ a ∈ mAs S, a.block ≠ q) ∧ Hq q)
  (hF:∀ b,b < w.heap.size→F.heap[b]? =((((w.setCell ⟨g,i * 4,none⟩ (.int .i64 k.pc)).setCell ⟨g,i * 4+1,none⟩ r).setCell ⟨g,i * 4+2,none⟩ u).setCell ⟨g,i * 4+3,none⟩ (.int .i64 k.st)).heap[b]?) (hs:w.heap.size≤F.heap.size):
  MQ F B Hq vc (.slice (some ⟨g,0,none⟩) N c) vm vt LC (LK.set i ⟨{ k with vw:=l },r,u⟩) S (putK d i { k with vw:=l }):=by
 subst hN
 have hi:i < LK.length:=(List.getElem?_eq_some_iff.1 hx).1
 obtain ⟨f0,f1,f2,f3⟩:=flatK_at LK i _ hx
 have c0:w.cell? ⟨g,i * 4,none⟩=some (.int .i64 k.pc):=by rw [World.ownsRow.cellAt h.k.row _ (by omega),f0]
 have c1:w.cell? ⟨g,i * 4+1,none⟩=some r:=by rw [World.ownsRow.cellAt h.k.row _ (by omega),f1]
 have c3:w.cell? ⟨g,i * 4+3,none⟩=some (.int .i64 k.st):=by rw [World.ownsRow.cellAt h.k.row _ (by omega),f3]
 refine (MQ.setV h hx u l hu hf).keep (fun b _ hb=>?_) (by simpa using hs)
 rw [hF b (by simpa using hb)]
 have e1:((w.setCell ⟨g,i * 4,none⟩ (.int .i64 k.pc)).setCell ⟨g,i * 4+1,none⟩ r).heap[b]? =w.heap[b]? :=by
  rw [setCell_same ((setC_off (by omega)).trans c1),setCell_same c0]
 refine (setCell_same ?_ b).trans (heap_pair e1)
 exact (setC_off (by omega)).trans ((setC_off (by omega)).trans ((setC_off (by omega)).trans c3))
/- a store into a box of a core's type that is none of the machine's -/
theorem MQ0.offC {w:World} {B b j:Nat} {vc vk vm vt u:Value} {LC:List CV} {LK:List KV} {S:List RS} {d:MD} (h:MQ0 w B vc vk vm vt LC LK S d) (ht:TyB w b 53) (hne:vk.ownBlock≠some b):MQ0 (w.setCell ⟨b,j,none⟩ u) B vc vk vm vt LC LK S d:=by
 have hb:∀ k,k≠b→(w.setCell ⟨b,j,none⟩ u).heap[k]? =w.heap[k]? :=fun k hk=>Below.heap_setCell _ _ _ k hk
 have ne:∀ {e:TypeId} {size n:Nat} {u':Value} {xs:List Value},w.ownsRow B e size u' n xs→e≠53→∀ k,u'.ownBlock=some k→(w.setCell ⟨b,j,none⟩ u).heap[k]? =w.heap[k]? :=fun hu he k hk=>hb k (fun e'=>own_tb hu he ht (by rw [hk,e']))
 refine ⟨⟨ownKeep' h.c.row (ne h.c.row (by decide)),fun i x hx=>ownKeep' (h.c.inn i x hx) (ne (h.c.inn i x hx) (by decide)),h.c.sep⟩,h.ec,⟨ownKeep' h.k.row (fun k hk=>hb k (fun e=>hne (by rw [hk,e]))),fun i x hx=>⟨ownKeep' (h.k.inn i x hx).1 (ne (h.k.inn i x hx).1 (by decide)),ownKeep' (h.k.inn i x hx).2 (ne (h.k.inn i x hx).2 (by decide))⟩,h.k.two,h.k.sep⟩,h.ek,⟨h.m.n,ownKeep' h.m.row (ne h.m.row (by decide)),fun i r l hr hl=>?_,h.m.d⟩,ownKeep' h.t (ne h.t (by decide)),h.sk⟩
 have q:=h.m.r i r l hr hl
 refine q.kept (ne q.own (by decide)) (fun a ha=>hb a.block (fun e=>?_)) (by simp)
 obtain ⟨cs,f,c1⟩:=q.vt a ha
 obtain ⟨cs',f',c2⟩:=ht
 rw [e,c2] at c1
 injection c1 with c1
 injection c1 with _ c1
 exact absurd c1 (by decide)
theorem MQ.offC {Hq:Nat→Prop} {w:World} {B b j:Nat} {vc vk vm vt u:Value} {LC:List CV} {LK:List KV} {S:List RS} {d:MD} (h:MQ w B Hq vc vk vm vt LC LK S d) (ht:TyB w b 53) (hne:vk.ownBlock≠some b):MQ (w.setCell ⟨b,j,none⟩ u) B Hq vc vk vm vt LC LK S d:=⟨h.toMQ0.offC ht hne,h.hh,by simpa using h.hn⟩
theorem TyB.set {w:World} {b g o:Nat} {v:Value} {T:TypeId} (h:TyB w b T):TyB (w.setCell ⟨g,o,none⟩ v) b T:=by
 obtain ⟨cs,f,c⟩:=h
 by_cases e:b=g
 ·subst e
  exact ⟨_,f,heap_set c⟩
 ·exact ⟨cs,f,(Below.heap_setCell _ _ _ b e).trans c⟩
/- a view that a call has made lies apart -/
theorem MQ0.fresh {w w':World} {B:Nat} {vc vk vm vt u:Value} {LC:List CV} {LK:List KV} {S:List RS} {d:MD} {l:List Int} (h:MQ0 w B vc vk vm vt LC LK S d) (hu:OwnN w' w.heap.size u l):∀ q,u.ownBlock=some q→(∀ (j:Nat) (z:KV),LK[j]? =some z→¬ (z.r.ownBlock=some q∨z.v.ownBlock=some q))∧∀ a∈mAs S,a.block≠q:=fun q hq=>by
 have hlt:=(World.ownsRow.lt hu _ hq).1
 refine ⟨fun j z hz hh=>?_,fun a ha e=>?_⟩
 ·rcases hh with hh | hh
  ·have:=(World.ownsRow.lt (h.k.inn j z hz).1 _ hh).2;omega
  ·have:=(World.ownsRow.lt (h.k.inn j z hz).2 _ hh).2;omega
 ·have:=h.m.memblk ha;omega
theorem MQ.fresh {Hq:Nat→Prop} {w w':World} {B:Nat} {vc vk vm vt u:Value} {LC:List CV} {LK:List KV} {S:List RS} {d:MD} {l:List Int} (h:MQ w B Hq vc vk vm vt LC LK S d) (hu:OwnN w' w.heap.size u l):∀ q,u.ownBlock=some q→((∀ (j:Nat) (z:KV),LK[j]? =some z→¬ (z.r.ownBlock=some q∨z.v.ownBlock=some q))∧∀ a∈mAs S,a.block≠q)∧Hq q:=fun q hq=>⟨h.toMQ0.fresh hu q hq,h.hn q (World.ownsRow.lt hu _ hq).1⟩
theorem MQ.re {w w':World} {B:Nat} {Hq:Nat→Prop} {vc vk vm vt:Value} {LC:List CV} {LK:List KV} {S:List RS} {d:MD} (h:MQ w B Hq vc vk vm vt LC LK S d) (hb:∀ k,B≤k→k < w.heap.size→w'.heap[k]? =w.heap[k]?) (hs:w.heap.size≤w'.heap.size):MQ w' B (fun q=>(q < w.heap.size∧Hq q)∨w'.heap.size≤q) vc vk vm vt LC LK S d:=
 ⟨h.toMQ0.keep hb hs,⟨fun q e=>.inl ⟨(World.ownsRow.lt h.c.row q e).2,h.hh.c q e⟩,fun i x q hx e=>.inl ⟨(World.ownsRow.lt (h.c.inn i x hx) q e).2,h.hh.ci i x q hx e⟩,fun q e=>.inl ⟨(World.ownsRow.lt h.k.row q e).2,h.hh.k q e⟩,fun i x q hx e=>.inl ⟨e.elim (fun e=>(World.ownsRow.lt (h.k.inn i x hx).1 q e).2) (fun e=>(World.ownsRow.lt (h.k.inn i x hx).2 q e).2),h.hh.ki i x q hx e⟩,fun q e=>.inl ⟨(World.ownsRow.lt h.m.row q e).2,h.hh.m q e⟩,fun a ha=>.inl ⟨h.m.memblk ha,h.hh.mi a ha⟩,fun q e=>.inl ⟨(World.ownsRow.lt h.t q e).2,h.hh.t q e⟩⟩,fun q hq=>.inr hq⟩
theorem MQ.wk {w:World} {B:Nat} {Hq H2:Nat→Prop} {vc vk vm vt:Value} {LC:List CV} {LK:List KV} {S:List RS} {d:MD} (h:MQ w B Hq vc vk vm vt LC LK S d) (hw:∀ q,Hq q→H2 q):MQ w B H2 vc vk vm vt LC LK S d:=
 ⟨h.toMQ0,⟨fun q e=>hw q (h.hh.c q e),fun i x q hx e=>hw q (h.hh.ci i x q hx e),fun q e=>hw q (h.hh.k q e),fun i x q hx e=>hw q (h.hh.ki i x q hx e),fun q e=>hw q (h.hh.m q e),fun a ha=>hw _ (h.hh.mi a ha),fun q e=>hw q (h.hh.t q e)⟩,fun q hq=>hw q (h.hn q hq)⟩
theorem MQ.rowH {w:World} {B:Nat} {Hq:Nat→Prop} {vc vk vm vt:Value} {LC:List CV} {LK:List KV} {S:List RS} {d:MD} {i:Nat} {r:RS} (h:MQ w B Hq vc vk vm vt LC LK S d) (hr:S[i]? =some r) (h0:0 < r.vs.length) (q:Nat) (e:r.val.ownBlock=some q):Hq q:=by
 have hs:∃ o sp,r.s=some ⟨q,o,sp⟩:=by
  unfold RS.val at e
  cases hh:r.s with
  | none=>rw [hh] at e;simp [Value.ownBlock] at e
  | some a=>
   rw [hh] at e
   simp [Value.ownBlock] at e
   obtain ⟨g,o,sp⟩:=a
   simp at e
   subst e
   exact ⟨o,sp,rfl⟩
 obtain ⟨o,sp,hs⟩:=hs
 have hm:=h.hh.mi (adr r.s (0 * 2)) (mem_mAs.2 ⟨r,List.mem_of_getElem? hr,mem_rAs.2 (.inl ⟨0,h0,by simp⟩)⟩)
 rw [hs] at hm
 exact hm
theorem hidM {p:Prop} (h:p):Hid p:=h
/- what a step of memory answers -/
def MemP (w:World) (B:Nat) (Hq:Nat→Prop) (vc vk vm vt:Value) (LC:List CV) (LK:List KV) (S:List RS) (d:MD) (who:Nat) (late:Int) (k:KD) (s:I5) (e:Ending) (w':World):Prop:=
 if 0≤cellM k s∧cellM k s≤23 then
  (if s.o≠5∧(d.mem.getD (cellM k s).toNat []).length=4000 then e=.returned (.tuple #[.agg #[vc,vk,vm,vt],.bool true,.bool true])∧Below w.heap.size w w'
   else ∃ LK' S' r u,e=.returned (.tuple #[.agg #[vc,vk,vm,vt],.bool true,.bool false])∧MQ w' B Hq vc vk vm vt LC LK' S' (putK (memS d late k s (cellM k s).toNat).1 who (memS d late k s (cellM k s).toNat).2)∧LK'[who]? =some ⟨(memS d late k s (cellM k s).toNat).2,r,u⟩∧LK'.length=LK.length∧Below B w w'∧∀ b,¬ Hq b→w'.heap[b]? =w.heap[b]?)
 else e=.returned (.tuple #[.agg #[vc,vk,vm,vt],.bool false,.bool false])∧Below w.heap.size w w'
theorem OW.cellc {w:World} {B g n c k:Nat} {S:List RS} {m:List (List WD)} {r:RS} {lr:List WD} (h:OW w B (.slice (some ⟨g,0,none⟩) n c) S m) (hn:n=m.length) (hk:S[k]? =some r) (hl:m[k]? =some lr):w.cell? ⟨g,k,none⟩=some (.slice r.s lr.length r.c):=by
 have hr:=h.row
 rw [h.n,← hn] at hr
 have hlt:=(List.getElem?_eq_some_iff.1 hl).1
 have q:=(h.r k r lr hk hl).n
 rw [World.ownsRow.cellAt hr k (by omega),List.getElem?_map,hk]
 show some (Value.slice r.s r.vs.length r.c)=_
 rw [q]
theorem OW.memw {w:World} {B:Nat} {v:Value} {S:List RS} {m:List (List WD)} (h:OW w B v S m):∃ s c,v=.slice s m.length c∧MemR w B w.heap.size s m:=by
 obtain ⟨s,c,rfl,hm⟩:=h.om.mo
 exact ⟨s,c,rfl,hm.mem⟩
theorem OW.some_ {w:World} {B:Nat} {v:Value} {S:List RS} {m:List (List WD)} (h:OW w B v S m) (hm:memB m=true):∀ (i:Nat) (r:RS),S[i]? =some r→0 < r.vs.length:=fun i r hr=>by
 have hi:=(List.getElem?_eq_some_iff.1 hr).1
 have h24:=(memB_at hm (i:=0) (by omega)).1
 have hn:=h.n
 obtain ⟨-,l,hl,-,h1,-⟩:=memB_at hm (i:=i) (by omega)
 have q:=(h.r i r l hr hl).n
 omega
theorem ldW_eq (m:List (List WD)) (l:List Int) (c:Nat) (late:Int) (hold:Bool):(if hold=true then joinL (l.set c (ldJ m l c late)) (ldX m l c late).vw else l.set c (ldJ m l c late))=ldW m l c late hold:=rfl
end
section
set_option linter.unusedSimpArgs false
set_option linter.unusedVariables false
set_option maxRecDepth 100000
open Go.RowKit
def BxW (w:World) (b:Nat):Prop:=∃ cs f,w.heap[b]? =some (.cells cs 84 f)
theorem own_bw {w:World} {base size n b:Nat} {e:TypeId} {v:Value} {xs:List Value} (h:w.ownsRow base e size v n xs) (he:e≠84) (hb:BxW w b):v.ownBlock≠some b:=by
 obtain ⟨cs,f,c⟩:=hb
 intro hk
 rcases h.2 with ⟨rfl,-⟩ | ⟨g,cap,cur,rfl,-,c',-⟩
 ·cases hk
 ·simp only [Value.ownBlock,Option.some.injEq] at hk
  subst hk
  rw [c] at c'
  injection c' with c'
  injection c' with _ c'
  exact he c'.symm
theorem BxW.set {w:World} {b g o:Nat} {v:Value} (h:BxW w b):BxW (w.setCell ⟨g,o,none⟩ v) b:=by
 obtain ⟨cs,f,c⟩:=h
 by_cases e:b=g
 ·subst e
  exact ⟨_,f,heap_set c⟩
 ·exact ⟨cs,f,(Below.heap_setCell _ _ _ b e).trans c⟩
theorem OwnC.offw {w w':World} {base b:Nat} {v:Value} {L:List CV} (h:OwnC w base v L) (ht:BxW w b) (hb:∀ k,k≠b→w'.heap[k]? =w.heap[k]?):OwnC w' base v L:=
 ⟨ownKeep' h.row (fun k hk=>hb k (fun e=>own_bw h.row (by decide) ht (by rw [hk,e]))),fun i x hx=>ownKeep' (h.inn i x hx) (fun k hk=>hb k (fun e=>own_bw (h.inn i x hx) (by decide) ht (by rw [hk,e]))),h.sep⟩
theorem OwnK.offw {w w':World} {base b:Nat} {v:Value} {L:List KV} (h:OwnK w base v L) (ht:BxW w b) (hb:∀ k,k≠b→w'.heap[k]? =w.heap[k]?):OwnK w' base v L:=
 ⟨ownKeep' h.row (fun k hk=>hb k (fun e=>own_bw h.row (by decide) ht (by rw [hk,e]))),fun i x hx=>⟨ownKeep' (h.inn i x hx).1 (fun k hk=>hb k (fun e=>own_bw (h.inn i x hx).1 (by decide) ht (by rw [hk,e]))),ownKeep' (h.inn i x hx).2 (fun k hk=>hb k (fun e=>own_bw (h.inn i x hx).2 (by decide) ht (by rw [hk,e])))⟩,h.two,h.sep⟩
theorem OwnD.offw {w w':World} {base b:Nat} {v:Value} {l:List ND} (h:OwnD w base v l) (ht:BxW w b) (hb:∀ k,k≠b→w'.heap[k]? =w.heap[k]?):OwnD w' base v l:=ownKeep' h (fun k hk=>hb k (fun e=>own_bw h (by decide) ht (by rw [hk,e])))
theorem OW.offw {w w':World} {B b:Nat} {v:Value} {S:List RS} {m:List (List WD)} (h:OW w B v S m) (ht:BxW w b) (hb:∀ k,k≠b→w'.heap[k]? =w.heap[k]?) (hs:w.heap.size≤w'.heap.size):OW w' B v S m:=by
 refine ⟨h.n,ownKeep' h.row (fun k hk=>hb k (fun e=>own_bw h.row (by decide) ht (by rw [hk,e]))),fun i r l hr hl=>?_,h.d⟩
 have q:=h.r i r l hr hl
 refine q.kept (fun k hk=>hb k (fun e=>?_)) (fun a ha=>hb _ (fun e=>?_)) hs
 ·obtain ⟨cs,c⟩:=q.blkT hk
  obtain ⟨cs',f,c'⟩:=ht
  rw [e,c'] at c
  injection c with c
  injection c with _ c
  exact absurd c (by decide)
 ·obtain ⟨cs,f,c⟩:=q.vt a ha
  obtain ⟨cs',f',c'⟩:=ht
  rw [e,c'] at c
  injection c with c
  injection c with _ c
  exact absurd c (by decide)
theorem MQ0.offW {w:World} {B b j:Nat} {vc vk vm vt u:Value} {LC:List CV} {LK:List KV} {S:List RS} {d:MD} (h:MQ0 w B vc vk vm vt LC LK S d) (ht:BxW w b):MQ0 (w.setCell ⟨b,j,none⟩ u) B vc vk vm vt LC LK S d:=by
 have hb:∀ k,k≠b→(w.setCell ⟨b,j,none⟩ u).heap[k]? =w.heap[k]? :=fun k hk=>Below.heap_setCell _ _ _ k hk
 exact ⟨h.c.offw ht hb,h.ec,h.k.offw ht hb,h.ek,h.m.offw ht hb (by simp),h.t.offw ht hb,h.sk⟩
theorem MQ.offW {Hq:Nat→Prop} {w:World} {B b j:Nat} {vc vk vm vt u:Value} {LC:List CV} {LK:List KV} {S:List RS} {d:MD} (h:MQ w B Hq vc vk vm vt LC LK S d) (ht:BxW w b):MQ (w.setCell ⟨b,j,none⟩ u) B Hq vc vk vm vt LC LK S d:=⟨h.toMQ0.offW ht,h.hh,by simpa using h.hn⟩
theorem BxW.same {w w':World} {b:Nat} (h:BxW w b) (e:w'.heap[b]? =w.heap[b]?):BxW w' b:=by
 obtain ⟨cs,f,c⟩:=h
 exact ⟨cs,f,e.trans c⟩
theorem BxW.lt {w:World} {b:Nat} (h:BxW w b):b < w.heap.size:=by
 obtain ⟨cs,f,c⟩:=h
 exact (Array.getElem?_eq_some_iff.1 c).1
theorem mach_mem {d:MD} (h:machB d=true):memB d.mem=true:=by
 unfold machB at h
 simp only [Bool.and_eq_true] at h
 exact h.2.2.2
theorem MQ.hop {w w':World} {B:Nat} {Hq:Nat→Prop} {vc vk vm vt:Value} {LC:List CV} {LK:List KV} {S:List RS} {d:MD} (h:MQ w B Hq vc vk vm vt LC LK S d) (hm:memB d.mem=true) (hb:∀ k,k < w.heap.size→Hq k→w'.heap[k]? =w.heap[k]?) (hs:w.heap.size≤w'.heap.size):MQ w' B (fun q=>(q < w.heap.size∧Hq q)∨w'.heap.size≤q) vc vk vm vt LC LK S d:=by
 have r:=h.re (w':=w) (fun _ _ _=>rfl) (Nat.le_refl _)
 have lt:∀ {e:TypeId} {size n:Nat} {u:Value} {xs:List Value},w.ownsRow B e size u n xs→(∀ q,u.ownBlock=some q→Hq q)→∀ q,u.ownBlock=some q→w'.heap[q]? =w.heap[q]? :=fun hu hh q e=>hb q (World.ownsRow.lt hu q e).2 (hh q e)
 refine ⟨⟨⟨ownKeep' h.c.row (lt h.c.row h.hh.c),fun i x hx=>ownKeep' (h.c.inn i x hx) (lt (h.c.inn i x hx) (fun q e=>h.hh.ci i x q hx e)),h.c.sep⟩,h.ec,⟨ownKeep' h.k.row (lt h.k.row h.hh.k),fun i x hx=>⟨ownKeep' (h.k.inn i x hx).1 (lt (h.k.inn i x hx).1 (fun q e=>h.hh.ki i x q hx (.inl e))),ownKeep' (h.k.inn i x hx).2 (lt (h.k.inn i x hx).2 (fun q e=>h.hh.ki i x q hx (.inr e)))⟩,h.k.two,h.k.sep⟩,h.ek,⟨h.m.n,ownKeep' h.m.row (lt h.m.row h.hh.m),fun i r l hr hl=>?_,h.m.d⟩,ownKeep' h.t (lt h.t h.hh.t),h.sk⟩,?_,fun q hq=>.inr hq⟩
 ·have q:=h.m.r i r l hr hl
  refine q.kept (lt q.own (h.rowH hr (h.m.some_ hm i r hr))) (fun a ha=>?_) hs
  have ha':a∈mAs S:=mem_mAs.2 ⟨r,List.mem_of_getElem? hr,mem_rAs.2 (.inr (mem_vsA.1 ha))⟩
  exact hb _ (h.m.memblk ha') (h.hh.mi a ha')
 ·have f:∀ q,q < w.heap.size→Hq q→(q < w.heap.size∧Hq q)∨w'.heap.size≤q:=fun q a b=>.inl ⟨a,b⟩
  have g:∀ q,q < w.heap.size∧Hq q∨w.heap.size≤q→q < w.heap.size→(q < w.heap.size∧Hq q)∨w'.heap.size≤q:=fun q a b=>a.elim (fun a=>.inl a) (fun a=>by omega)
  exact ⟨fun q e=>f q (World.ownsRow.lt h.c.row q e).2 (h.hh.c q e),fun i x q hx e=>f q (World.ownsRow.lt (h.c.inn i x hx) q e).2 (h.hh.ci i x q hx e),fun q e=>f q (World.ownsRow.lt h.k.row q e).2 (h.hh.k q e),fun i x q hx e=>f q (e.elim (fun e=>(World.ownsRow.lt (h.k.inn i x hx).1 q e).2) (fun e=>(World.ownsRow.lt (h.k.inn i x hx).2 q e).2)) (h.hh.ki i x q hx e),fun q e=>f q (World.ownsRow.lt h.m.row q e).2 (h.hh.m q e),fun a ha=>f _ (h.m.memblk ha) (h.hh.mi a ha),fun q e=>f q (World.ownsRow.lt h.t q e).2 (h.hh.t q e)⟩
theorem MQ0.toH {w:World} {B:Nat} {vc vk vm vt:Value} {LC:List CV} {LK:List KV} {S:List RS} {d:MD} (h:MQ0 w B vc vk vm vt LC LK S d) (hB:B≤w.heap.size):MQ w B (fun q=>B≤q) vc vk vm vt LC LK S d:=
 ⟨h,⟨fun q e=>(World.ownsRow.lt h.c.row q e).1,fun i x q hx e=>(World.ownsRow.lt (h.c.inn i x hx) q e).1,fun q e=>(World.ownsRow.lt h.k.row q e).1,fun i x q hx e=>e.elim (fun e=>(World.ownsRow.lt (h.k.inn i x hx).1 q e).1) (fun e=>(World.ownsRow.lt (h.k.inn i x hx).2 q e).1),fun q e=>(World.ownsRow.lt h.m.row q e).1,fun a ha=>(h.m.om.blk ha).1,fun q e=>(World.ownsRow.lt h.t q e).1⟩,fun q hq=>Nat.le_trans hB hq⟩
end
section
set_option linter.unusedSimpArgs false
set_option linter.unusedVariables false
set_option maxRecDepth 100000
open Go.RowKit
theorem hidM1 {p:Prop} (h:p):Hid p:=h
/- the cells of a runner and what they lead to -/
structure Rn (w:World) (R bm gk gc gs gr gv who n:Nat) (cv cr cs:Nat) (late:Int) (vc vk vm vt:Value) (nc cc:Nat) (pc st:Int):Prop where
 r0:w.cell? ⟨R,0,none⟩=some (.slice (some ⟨gv,0,none⟩) 24 cv)
 r1:w.cell? ⟨R,1,none⟩=some (.pointer (some ⟨gk,who * 4,none⟩))
 r2:w.cell? ⟨R,2,none⟩=some (.pointer (some ⟨bm,2,none⟩))
 r3:w.cell? ⟨R,3,none⟩=some (.int .i64 who)
 r4:w.cell? ⟨R,4,none⟩=some (.int .i64 late)
 m0:w.cell? ⟨bm,2,none⟩=some vc
 m1:w.cell? ⟨bm,3,none⟩=some vk
 m2:w.cell? ⟨bm,4,none⟩=some vm
 m3:w.cell? ⟨bm,5,none⟩=some vt
 fm:∀ j,w.frozen? ⟨bm,j,none⟩=false
 ec:vc=.slice (some ⟨gc,0,none⟩) nc cc
 c0:w.cell? ⟨gc,who,none⟩=some (.slice (some ⟨gs,0,none⟩) n cs)
 k0:w.cell? ⟨gk,who * 4,none⟩=some (.int .i64 pc)
 k1:w.cell? ⟨gk,who * 4+1,none⟩=some (.slice (some ⟨gr,0,none⟩) 8 cr)
 k3:w.cell? ⟨gk,who * 4+3,none⟩=some (.int .i64 st)
 fk:∀ j,w.frozen? ⟨gk,j,none⟩=false
 wc:who < nc
 zR:R < w.heap.size
 zm:bm < w.heap.size
 zk:gk < w.heap.size
 zc:gc < w.heap.size
 zr:gr < w.heap.size
theorem stop_any {w : World} {R bm gk gc gs gr gv who n cv cr cs : Nat} {late : Int} {vc vk vm vt : Value} {nc cc : Nat} {pc st : Int} (z : Int) (h : Rn w R bm gk gc gs gr gv who n cv cr cs late vc vk vm vt nc cc pc st) :
  Calls Tryz.prog 161 #[.pointer (some ⟨R,0,none⟩),.int .i64 z] w fun e w'=>e=.returned (.int .i64 0)∧Below w.heap.size (w.setCell ⟨gk,who * 4+3,none⟩ (.int .i64 z)) w':=by
 obtain ⟨r0,r1,r2,r3,r4,m0,m1,m2,m3,fm,ec,c0,k0,k1,k3,fk,wc,zR,zm,zk,zc,zr⟩:=h
 go_enter Tryz.func161,Tryz.ntmps161
 go_wp2
 go_ret
 exact ⟨rfl,Below.refl _ _⟩
theorem Rn.below {w w':World} {R bm gk gc gs gr gv who n cv cr cs:Nat} {late:Int} {vc vk vm vt:Value} {nc cc:Nat} {pc st:Int} (h:Rn w R bm gk gc gs gr gv who n cv cr cs late vc vk vm vt nc cc pc st) (hb:Below w.heap.size w w'):Rn w' R bm gk gc gs gr gv who n cv cr cs late vc vk vm vt nc cc pc st:=by
 obtain ⟨r0,r1,r2,r3,r4,m0,m1,m2,m3,fm,ec,c0,k0,k1,k3,fk,wc,zR,zm,zk,zc,zr⟩:=h
 have hs:=hb.size
 have cc':∀ b j,b < w.heap.size→w'.cell? ⟨b,j,none⟩=w.cell? ⟨b,j,none⟩:=fun b j hb'=>hb.cell (p:=⟨b,j,none⟩) hb'
 exact ⟨(cc' _ _ zR).trans r0,(cc' _ _ zR).trans r1,(cc' _ _ zR).trans r2,(cc' _ _ zR).trans r3,(cc' _ _ zR).trans r4,(cc' _ _ zm).trans m0,(cc' _ _ zm).trans m1,(cc' _ _ zm).trans m2,(cc' _ _ zm).trans m3,fun j=>(hb.frozen (p:=⟨bm,j,none⟩) zm).trans (fm j),ec,(cc' _ _ zc).trans c0,(cc' _ _ zk).trans k0,(cc' _ _ zk).trans k1,(cc' _ _ zk).trans k3,fun j=>(hb.frozen (p:=⟨gk,j,none⟩) zk).trans (fk j),wc,by omega,by omega,by omega,by omega,by omega⟩
/- a store behind what a call has left alone -/
theorem below_pair {w w':World} {g j:Nat} {v:Value} (h:Below w.heap.size w w'):Below w.heap.size (w.setCell ⟨g,j,none⟩ v) (w'.setCell ⟨g,j,none⟩ v):=
 ⟨h.os,h.tape,h.output,by simpa using h.size,fun b hb=>heap_pair (h.block b hb)⟩
theorem goTo_yes {w : World} {R bm gk gc gs gr gv who n cv cr cs : Nat} {late : Int} {vc vk vm vt : Value} {nc cc : Nat} {pc st : Int} (at_ : Int) (h : Rn w R bm gk gc gs gr gv who n cv cr cs late vc vk vm vt nc cc pc st) (h0 : 0 ≤ at_) (h1 : at_ < (n : Int)) :
  Calls Tryz.prog 164 #[.pointer (some ⟨R,0,none⟩),.int .i64 at_] w fun e w'=>e=.returned (.int .i64 0)∧Below w.heap.size (w.setCell ⟨gk,who * 4,none⟩ (.int .i64 at_)) w':=by
 have hh:=h
 obtain ⟨r0,r1,r2,r3,r4,m0,m1,m2,m3,fm,ec,c0,k0,k1,k3,fk,wc,zR,zm,zk,zc,zr⟩:=h
 subst ec
 have b0:(0:Int)≤(who:Int):=by omega
 have b1:(who:Int) < (nc:Int):=by omega
 have H:=hidM1 hh
 go_enter Tryz.func164,Tryz.ntmps164
 go_wp2_with fail
 have hne:=ext_ne w
 have u0:=Ext.fit r2 zR
 have u1:=Ext.fit m0 zm
 have u2:=Ext.fit r3 zR
 have u3:=Ext.fit c0 zc
 refine regionExt w (by kernel_rfl) (by kernel_rfl) ?_
 repeat (go_big_quiet_step ((rename_i X;go_at_call 31;refine (isOneOf_is _ _ true _ (by unfold Plain.oneB;simp;omega)).mono ?_;rintro e w3 ⟨rfl,hw3⟩;exact ⟨rfl,by rw [hw3];exact X.on (Below.refl _ _)⟩)))
 refine wpQuiet_nil ?_
 rintro w3 ⟨X3,rfl⟩
 obtain ⟨V,hV⟩:∃ V,X3.w=V:=⟨_,rfl⟩
 have hb:=X3.b
 rw [hV] at hb ⊢
 have HB:Hid (Below w.heap.size w V):=hb
 clear hne u0 u1 u2 u3 r0 r1 r2 r3 r4 m0 m1 m2 m3 fm c0 k0 k1 k3 fk hV X3
 obtain ⟨r0,r1,r2,r3,r4,m0,m1,m2,m3,fm,ec,c0,k0,k1,k3,fk,wc,zR',zm',zk',zc',zr'⟩:=H.out.below hb
 clear hb ec
 go_wp2
 go_ret
 exact ⟨rfl,below_pair HB.out⟩
theorem goTo_no {w : World} {R bm gk gc gs gr gv who n cv cr cs : Nat} {late : Int} {vc vk vm vt : Value} {nc cc : Nat} {pc st : Int} (at_ : Int) (h : Rn w R bm gk gc gs gr gv who n cv cr cs late vc vk vm vt nc cc pc st) (h1 : ¬ (0 ≤ at_ ∧ at_ < (n : Int))) :
  Calls Tryz.prog 164 #[.pointer (some ⟨R,0,none⟩),.int .i64 at_] w fun e w'=>e=.returned (.int .i64 0)∧Below w.heap.size (w.setCell ⟨gk,who * 4+3,none⟩ (.int .i64 2)) w':=by
 have hh:=h
 obtain ⟨r0,r1,r2,r3,r4,m0,m1,m2,m3,fm,ec,c0,k0,k1,k3,fk,wc,zR,zm,zk,zc,zr⟩:=h
 subst ec
 have b0:(0:Int)≤(who:Int):=by omega
 have b1:(who:Int) < (nc:Int):=by omega
 have H:=hidM1 hh
 have H1:=hidM1 h1
 go_enter Tryz.func164,Tryz.ntmps164
 go_wp2_with fail
 have hne:=ext_ne w
 have u0:=Ext.fit r2 zR
 have u1:=Ext.fit m0 zm
 have u2:=Ext.fit r3 zR
 have u3:=Ext.fit c0 zc
 refine regionExt w (by kernel_rfl) (by kernel_rfl) ?_
 repeat (go_big_quiet_step ((rename_i X;go_at_call 31;refine (isOneOf_is _ _ false _ (by have:=H1.out;unfold Plain.oneB;simp;omega)).mono ?_;rintro e w3 ⟨rfl,hw3⟩;exact ⟨rfl,by rw [hw3];exact X.on (Below.refl _ _)⟩)))
 refine wpQuiet_nil ?_
 rintro w3 ⟨X3,rfl⟩
 obtain ⟨V,hV⟩:∃ V,X3.w=V:=⟨_,rfl⟩
 have hb:=X3.b
 rw [hV] at hb ⊢
 have HB:Hid (Below w.heap.size w V):=hb
 have ST:=hidM1 (stop_any 2 (H.out.below hb))
 clear hne u0 u1 u2 u3 r0 r1 r2 r3 r4 m0 m1 m2 m3 fm c0 k0 k1 k3 fk hV X3
 go_wp2_with fail
 refine Calls.mono ST.out ?_
 rintro e w4 ⟨rfl,hb4⟩
 have HB4:=hidM1 hb4
 clear hb4
 go_wp2
 go_ret
 have q:=HB.out.size
 exact ⟨rfl,(below_pair (g:=gk) (j:=who * 4+3) (v:=.int .i64 2) HB.out).trans (HB4.out.mono q)⟩
theorem lessOf_any (a b:Int) (w:World):Calls Tryz.prog 165 #[.int .i64 a,.int .i64 b] w fun e w'=>e=.returned (.int .i64 (bitN (decide (a < b))))∧w'=w:=by
 by_cases h:a < b
 all_goals
  go_enter Tryz.func165,Tryz.ntmps165
  go_wp2
  go_ret
  exact ⟨by simp [bitN,h],rfl⟩
def reckV (o n va vb:Int):Int:=if o=1 then n else if o=2 then wI (va+vb) else if o=3 then wI (va - vb) else bitN (decide (va < vb))
end
section
set_option linter.unusedSimpArgs false
set_option linter.unusedVariables false
set_option maxRecDepth 100000
open Go.RowKit
def zRow:List WD:=[⟨0,List.replicate 24 0⟩]
def newM (k:Nat):List (List WD):=List.replicate k zRow
theorem newM_len (k:Nat):(newM k).length=k:=by simp [newM]
theorem newM_succ (k:Nat):newM (k+1)=newM k++[zRow]:=List.replicate_succ'
/- the three blocks of a new row -/
def W3 (w:World):World:=((w.alloc (.cells (madeCells #[.int .i64 0] 24) 3)).alloc (.cells #[.int .i64 0,.slice (some ⟨w.heap.size,0,none⟩) 24 24] 99)).alloc (.cells #[.slice (some ⟨w.heap.size+1,0,none⟩) 1 1] 97)
theorem W3_below (w:World):Below w.heap.size w (W3 w):=(((Below.refl _ _).alloc (Nat.le_refl _) _).alloc (by simp) _).alloc (by simp;omega) _
theorem W3_size (w:World):(W3 w).heap.size=w.heap.size+3:=by simp [W3]
theorem W3_row (w:World):RO (W3 w) w.heap.size (W3 w).heap.size ⟨some ⟨w.heap.size+1,0,none⟩,1,[⟨some ⟨w.heap.size,0,none⟩,24,24⟩]⟩ zRow:=by
 have h:=RO.push (w:=W3 w) (w':=W3 w) (lo:=w.heap.size) (hi:=(W3 w).heap.size) (G:=w.heap.size+1) (O:=0) (c:=1) (vs:=[]) (l:=[]) ⟨some ⟨w.heap.size,0,none⟩,24,24⟩ ⟨0,List.replicate 24 0⟩ (RO.nil _ _ _ _ _) ⟨by omega,by rw [W3_size];omega⟩ (fun a _ _=>⟨rfl,rfl⟩) (by simp [W3,go_sem]) (by simp [W3,go_sem]) (by simp [W3,go_sem]) ?_ ?_ (vAs_nodup (g:=w.heap.size) (o:=0) rfl) (fun x hx=>by simp at hx)
 ·exact h
 ·refine ⟨by simp,.inr ⟨w.heap.size,0,rfl,Nat.le_refl _,by rw [W3_size];omega,fun i hi'=>?_⟩⟩
  simp at hi'
  rw [Nat.zero_add]
  refine ⟨?_,by simp [W3,go_sem]⟩
  have e:(W3 w).cell? ⟨w.heap.size,i,none⟩=(madeCells #[.int .i64 0] 24)[i]? :=by simp [W3,go_sem]
  show _=some (Value.int .i64 ((List.replicate 24 (0:Int)).getD i 0))
  rw [e,← Array.getElem?_toList,toList_madeCells_one,List.getElem?_replicate,if_pos hi',List.getD_eq_getElem?_getD,List.getElem?_replicate,if_pos hi']
  rfl
 ·intro a ha
  obtain ⟨i,-,rfl⟩:=mem_vAs.1 ha
  show w.heap.size≠w.heap.size+1
  omega
set_option maxHeartbeats 2000000 in
theorem specNew_any (w:World):Calls Tryz.prog 129 #[] w fun e w'=>∃ s c S,e=.returned (.agg #[.slice s 24 c])∧MO w' w.heap.size w'.heap.size s S (newM 24)∧Below w.heap.size w w':=by
 have hmk:∀ w:World,(Instr.makeSlice 51 (.int .i64 24) (.int .i64 24)).run Tryz.prog w=.ok (.slice (some ⟨w.heap.size,0,none⟩) 24 24) (w.alloc (.cells (madeCells #[.int .i64 0] 24) 3)):=fun w=>mkInt 24 (by omega) w
 go_enter Tryz.func129,Tryz.ntmps129
 go_wp2
 go_loopw [2] (fun i wr=>∃ (k:Nat) (v:Value) (S:List RS),k≤24∧i=.int .i64 k∧S.length=k∧OM wr (w.heap.size+2) v S (newM k)∧wr.cell? ⟨w.heap.size+1,0,none⟩=some v∧(wr.cell? ⟨w.heap.size,0,none⟩).isSome=true∧(∀ j,wr.frozen? ⟨w.heap.size+1,j,none⟩=false)∧(∀ j,wr.frozen? ⟨w.heap.size,j,none⟩=false)∧w.heap.size+1 < wr.heap.size∧Below w.heap.size w wr) (fun i _=>24 - (intOf i).toNat)
 case atStart=>exact ⟨0,.slice none 0 0,[],Nat.zero_le _,rfl,rfl,OM.nil _ _,by simp [go_sem],by simp [go_sem],fun j=>by simp [go_sem],fun j=>by simp [go_sem],by simp,((Below.refl _ _).alloc (Nat.le_refl _) _).alloc (by simp) _⟩
 case round=>
  obtain ⟨k,v,S,hk,rfl,hS,ho,c1,c0,f1,f0,hz,hb⟩:=hrel
  obtain ⟨s,c,hv,-⟩:=ho.mo
  rw [newM_len] at hv
  subst hv
  have HO:Hid (OM wr (w.heap.size+2) (.slice s k c) S (newM k)):=ho
  have HB:Hid (Below w.heap.size w wr):=hb
  have HS:Hid (S.length=k):=hS
  have hzz:w.heap.size < wr.heap.size:=by omega
  have hz2:w.heap.size+2≤wr.heap.size:=by omega
  obtain ⟨u0,c0'⟩:=Option.isSome_iff_exists.1 c0
  clear ho hb hS c0
  by_cases hlt:k < 24
  ·have b0:(k:Int) < 24:=by omega
   go_wp2
   have HOX:Hid (OM (W3 wr.drew) (w.heap.size+2) (.slice s k c) S (newM k)):=(HO.out.below (Below.drew (Below.refl _ _))).below (W3_below _)
   go_region_law (refine step_rowW rfl _ _ rfl (W3 wr.drew) (w.heap.size+2) (.slice s k c) S.length (S.map RS.val) rfl HOX.out.row (wr.heap.size+1+1) (.slice (some ⟨wr.heap.size+1,0,none⟩) 1 1) rfl rfl (by simp [W3,go_sem]) (by have:=HS.out;omega) (by rw [W3_size];show w.heap.size+2≤wr.heap.size+3;omega) ?_;intro g1 cap1 w1 ho1 hg1 hn1 hl1;have hb1:Below (w.heap.size+2) wr w1:=((Below.drew (Below.refl _ _)).trans ((W3_below wr.drew).mono (show w.heap.size+2≤wr.heap.size by omega))).trans (Below.grown (Below.refl _ _) hg1 (by rw [W3_size];show w.heap.size+2≤wr.heap.size+3;omega) (fun j hj=>(World.ownsRow.lt HOX.out.row _ hj).1));have t1:=(hb1.cell (p:=⟨w.heap.size+1,0,none⟩) (show w.heap.size+1 < w.heap.size+2 by omega)).trans c1;have t2:=(hb1.frozen (p:=⟨w.heap.size+1,0,none⟩) (show w.heap.size+1 < w.heap.size+2 by omega)).trans (f1 0);have HO1:=(show Hid _ from ho1);have HG1:=(show Hid _ from hg1);have HN1:=(show Hid _ from hn1);have HB1:=(show Hid _ from hb1);clear ho1 hg1 hn1 hb1)
   all_goals
    have HP:=(HO.out.below (Below.drew (Below.refl _ _))).push _ zRow (W3_below _) (W3_row wr.drew) (show w.heap.size+2≤wr.heap.size by omega) HO1.out HG1.out HN1.out
    have HP1:Hid (OM w1 (w.heap.size+2) (.slice (some ⟨g1,0,none⟩) (S.length+1) cap1) (S++[⟨some ⟨wr.heap.size+1,0,none⟩,1,[⟨some ⟨wr.heap.size,0,none⟩,24,24⟩]⟩]) (newM (k+1))):=by
     show OM _ _ _ _ _
     rw [newM_succ]
     have e:(S++[(⟨some ⟨wr.heap.size+1,0,none⟩,1,[⟨some ⟨wr.heap.size,0,none⟩,24,24⟩]⟩:RS)]).length=S.length+1:=by simp
     rw [← e]
     exact HP
    have t3:=(HB1.out.cell (p:=⟨w.heap.size,0,none⟩) (show w.heap.size < w.heap.size+2 by omega)).trans c0'
    have hz1:=HB1.out.size
    clear HP
    go_wp2
    go_roundw
    case rel=>
     refine ⟨k+1,.slice (some ⟨g1,0,none⟩) (S.length+1) cap1,_,by omega,by go_num,by simp [HS.out],HP1.out.keepB (fun b hb=>Below.heap_setCell _ _ _ b (by show b≠w.heap.size+1;omega)) (by simp),setC_at (by rw [t1];rfl),?_,fun j=>?_,fun j=>?_,by simp;omega,?_⟩
     ·rw [setC_blk (by omega),t3];rfl
     ·rw [World.frozen?_setCell,HB1.out.frozen (p:=⟨w.heap.size+1,j,none⟩) (show w.heap.size+1 < w.heap.size+2 by omega)];exact f1 j
     ·rw [World.frozen?_setCell,HB1.out.frozen (p:=⟨w.heap.size,j,none⟩) (show w.heap.size < w.heap.size+2 by omega)];exact f0 j
     ·exact (HB.out.trans (HB1.out.mono (by omega))).setCell (p:=⟨w.heap.size+1,0,none⟩) (by show w.heap.size≤w.heap.size+1;omega) _
    case measure=>simp [intOf];omega
  ·have e24:k=24:=by omega
   subst e24
   go_wp2
   obtain ⟨s',c',ev,hmo⟩:=HO.out.mo
   injection ev with e1 e2 e3
   subst e1
   refine bodyPost_ret (v:=.agg #[.slice s 24 c]) (by simp [results,Tryz.results129,go_sem,c0']) rfl ⟨s,c,S,rfl,?_,?_⟩
   ·refine MO.mono (lo:=w.heap.size+2) (hi:=wr.heap.size) ?_ (by omega) (by simp)
    exact hmo.keep (fun b h1 h2=>Below.heap_setCell _ _ _ b (by show b≠w.heap.size;omega))
   ·exact HB.out.setCell (p:=⟨w.heap.size,0,none⟩) (Nat.le_refl _) _
end
section
set_option linter.unusedSimpArgs false
set_option linter.unusedVariables false
set_option maxRecDepth 100000
open Go.RowKit
/- the same operation, made to do nothing -/
def idle (o:Oper):Oper:={ o with op:=.assign (.const (.bool false)) }
def lastOk (l:List Oper) (o:Oper):Bool:=
 (List.range l.length).all (fun i=>o.after.any fun e=>Region.binds .any e&&e.on==i)&&((List.range (l.length+1)).all fun i=>((l++[o])[i]?.map fun x=>x.after.all fun e=>!Region.binds .any e||decide (e.on < i)).getD true)
theorem idle_at (l:List Oper) (o:Oper) (i:Nat):(i < l.length∧(l++[idle o])[i]? =l[i]? ∧(l++[o])[i]? =l[i]?)∨(i=l.length∧(l++[idle o])[i]? =some (idle o)∧(l++[o])[i]? =some o)∨(l.length < i∧(l++[idle o])[i]? =none∧(l++[o])[i]? =none):=by
 rcases Nat.lt_trichotomy i l.length with h | h | h
 ·exact .inl ⟨h,List.getElem?_append_left h,List.getElem?_append_left h⟩
 ·subst h
  exact .inr (.inl ⟨rfl,by simp,by simp⟩)
 ·exact .inr (.inr ⟨h,by simp;omega,by simp;omega⟩)
theorem ready_idle (l:List Oper) (o:Oper) (listed:Array Bool):Region.ready .any (l++[idle o]).toArray listed=Region.ready .any (l++[o]).toArray listed:=by
 unfold Region.ready
 have hs:(l++[idle o]).toArray.size=(l++[o]).toArray.size:=by simp
 rw [hs]
 refine List.filter_congr fun i _=>?_
 rw [List.getElem?_toArray,List.getElem?_toArray]
 rcases idle_at l o i with ⟨-,h1,h2⟩ | ⟨-,h1,h2⟩ | ⟨-,h1,h2⟩<;>rw [h1,h2]<;>rfl
theorem yielded_idle (l:List Oper) (o:Oper) (t:Array Value):yielded (l++[idle o]).toArray t=yielded (l++[o]).toArray t:=by
 funext j
 unfold yielded
 rw [List.getElem?_toArray,List.getElem?_toArray]
 rcases idle_at l o j with ⟨-,h1,h2⟩ | ⟨-,h1,h2⟩ | ⟨-,h1,h2⟩<;>rw [h1,h2]<;>rfl
theorem mem_ready {ops:Array Oper} {listed:Array Bool} {i:Nat}:i∈Region.ready .any ops listed↔i < ops.size∧listed.getD i true=false∧((ops[i]?).map (·.after.all fun e=>!Region.binds .any e||listed.getD e.on false)).getD false=true:=by
 unfold Region.ready
 rw [List.mem_filter,List.mem_range,Bool.and_eq_true,Bool.not_eq_true']
theorem ready_some {l:List Oper} {o:Oper} (hL:lastOk l o=true) {listed:Array Bool} (hs:listed.size=l.length+1):∀ (k:Nat),k≤l.length→listed.getD k true=false→Region.ready .any (l++[o]).toArray listed≠[]:=by
 intro k
 induction k using Nat.strongRecOn with
 | ind k ih=>
  intro hk hf
  by_cases h:∃ j,j < k∧listed.getD j true=false
  ·obtain ⟨j,h1,h2⟩:=h
   exact ih j h1 (by omega) h2
  ·intro hn
   have:k∈Region.ready .any (l++[o]).toArray listed:=by
    rw [mem_ready]
    refine ⟨by simp;omega,hf,?_⟩
    unfold lastOk at hL
    rw [Bool.and_eq_true,List.all_eq_true,List.all_eq_true] at hL
    have q:=hL.2 k (List.mem_range.2 (by omega))
    rw [List.getElem?_toArray]
    obtain ⟨x,hx⟩:∃ x,(l++[o])[k]? =some x:=⟨_,List.getElem?_eq_getElem (by simp;omega)⟩
    rw [hx] at q ⊢
    simp only [Option.map_some,Option.getD_some] at q ⊢
    rw [Array.all_eq_true'] at q ⊢
    intro e he
    have q':=q e he
    rw [Bool.or_eq_true] at q' ⊢
    rcases q' with q' | q'
    ·exact .inl q'
    ·refine .inr ?_
     rw [decide_eq_true_eq] at q'
     have hj:¬ listed.getD e.on true=false:=fun hh=>h ⟨e.on,q',hh⟩
     have hlt:e.on < listed.size:=by omega
     simp only [Array.getD,hlt,dif_pos] at hj ⊢
     simpa using hj
   rw [hn] at this
   cases this
theorem ready_last {l:List Oper} {o:Oper} (hL:lastOk l o=true) {listed:Array Bool} (hs:listed.size=l.length+1) (h:l.length∈Region.ready .any (l++[o]).toArray listed):Region.ready .any (l++[o]).toArray (listed.setIfInBounds l.length true)=[]:=by
 rw [mem_ready] at h
 obtain ⟨-,-,h⟩:=h
 have e:(l++[o]).toArray[l.length]? =some o:=by rw [List.getElem?_toArray];simp
 rw [e] at h
 simp only [Option.map_some,Option.getD_some] at h
 rw [Array.all_eq_true'] at h
 unfold lastOk at hL
 rw [Bool.and_eq_true,List.all_eq_true] at hL
 refine List.eq_nil_iff_forall_not_mem.2 fun i hi=>?_
 rw [mem_ready] at hi
 obtain ⟨h1,h2,-⟩:=hi
 simp at h1
 by_cases hil:i=l.length
 ·subst hil
  have:l.length < listed.size:=by omega
  simp [Array.getD,this] at h2
 ·have q:=hL.1 i (List.mem_range.2 (by omega))
  rw [Array.any_eq_true'] at q
  obtain ⟨x,hx,q⟩:=q
  rw [Bool.and_eq_true,beq_iff_eq] at q
  have:=h x hx
  rw [q.1,q.2] at this
  have hlt:i < listed.size:=by omega
  simp [Array.getD,hlt] at this
  simp [Array.getD,hlt,Array.getElem_setIfInBounds,Ne.symm hil,this] at h2
theorem any_done {P:Program} {ops:Array Oper} {Q:Exit→Act→World→Prop} {listed:Array Bool} (hr:Region.ready .any ops listed=[]) {a:Act} {w:World} (h:Q .normal a w):∀ fuel,wpAny P .any ops Q fuel listed a w
 | 0=>⟨hr,h⟩
 | _+1=>⟨fun _=>h,by rw [hr];simp⟩
theorem last_conv {P : Program} {Q : Exit → Act → World → Prop} {C : World → Prop} {Qa : Act → Prop} {l : List Oper} {o : Oper} (hL : lastOk l o = true) (hg : o.guard = none) (hd : o.dst = none) {A : Array Oper} (hQ : ∀ a w, C w → Qa a → wpList P A Q [o] a w) :
  ∀ (fuel:Nat) (listed:Array Bool) (a:Act) (w:World),listed.size=l.length+1→listed.getD l.length true=false→C w→wpAnyQ P .any (l++[idle o]).toArray C Qa fuel listed a→wpAny P .any (l++[o]).toArray Q fuel listed a w
 | 0,listed,a,w,hs,hf,hC,h=>absurd ((ready_idle l o listed)▸h.1) (ready_some hL hs l.length (Nat.le_refl _) hf)
 | fuel+1,listed,a,w,hs,hf,hC,h=>by
  refine ⟨fun h0=>absurd h0 (ready_some hL hs l.length (Nat.le_refl _) hf),fun i hi=>?_⟩
  have hq:=h.2 i ((ready_idle l o listed).symm▸hi)
  have hlt:=(mem_ready.1 hi).1
  simp at hlt
  by_cases hil:i=l.length
  ·subst hil
   have hr:=ready_last hL hs hi
   have e':(l++[idle o]).toArray[l.length]? =some (idle o):=by rw [List.getElem?_toArray];simp
   have e:(l++[o]).toArray[l.length]? =some o:=by rw [List.getElem?_toArray];simp
   unfold qOp at hq
   simp only [e'] at hq
   have hw:∀ t,Region.wanted (idle o) t=true:=fun t=>by simp [Region.wanted,idle,hg]
   have hw':∀ t,Region.wanted o t=true:=fun t=>by simp [Region.wanted,hg]
   rw [if_pos (hw _)] at hq
   obtain ⟨v,-,hq⟩:=hq
   have ep:a.put (idle o).dst v=a:=by show a.put o.dst v=a;rw [hd];rfl
   rw [ep] at hq
   have ha:Qa a:=by
    cases fuel with
    | zero=>exact hq.2
    | succ n=>exact hq.1 (by rw [ready_idle];exact hr)
   unfold wpOp
   simp only [e]
   rw [if_pos (hw' _)]
   have hh:=hQ a w hC ha
   unfold wpList at hh
   rw [if_pos (hw' _)] at hh
   exact hh.imp (Oper.wp_mono (fun a' w' hh=>any_done hr hh fuel)) id
  ·have hi2:i < l.length:=by omega
   have ee:(l++[idle o]).toArray[i]? =(l++[o]).toArray[i]? :=by rw [List.getElem?_toArray,List.getElem?_toArray,List.getElem?_append_left hi2,List.getElem?_append_left hi2]
   have hq':qOp P (l++[o]).toArray C i (wpAnyQ P .any (l++[idle o]).toArray C Qa fuel (listed.setIfInBounds i true)) a:=by
    unfold qOp at hq ⊢
    rw [ee,yielded_idle] at hq
    exact hq
   refine wpOp_of_qOp hC (fun a' w' hC' hk=>last_conv hL hg hd hQ fuel _ a' w' (by simpa using hs) ?_ hC' hk) hq'
   have h9:l.length < listed.size:=by omega
   simp only [Array.getD,h9,dif_pos] at hf
   simp [Array.getD,h9,Array.getElem_setIfInBounds,hil]
   simpa using hf
theorem quiet_snoc {P:Program} {ops:Array Oper} {C:World→Prop} {Qa:Act→Prop} {o:Oper} (hg:o.guard=none) (hd:o.dst=none):∀ (l:List Oper) (a:Act),wpQuiet P ops C Qa l a→wpQuiet P ops C Qa (l++[idle o]) a
 | [],a,h=>by
  have hw:Region.wanted (idle o) (yielded ops a.tmps)=true:=by simp [Region.wanted,idle,hg]
  refine BigFrame.wpQuiet_want hw fun K hK=>?_
  refine BigFrame.quiet_assign (.const (.bool false)) rfl ?_
  refine hK _ ?_
  show Qa (a.put o.dst _)
  rw [hd]
  exact h
 | x::r,a,h=>by
  unfold wpQuiet at h
  show wpQuiet P ops C Qa (x::(r++[idle o])) a
  unfold wpQuiet
  split
  ·rename_i hw
   rw [if_pos hw] at h
   exact Oper.quiet_mono (fun a'=>quiet_snoc hg hd r a') h
  ·rename_i hw
   rw [if_neg hw] at h
   exact quiet_snoc hg hd r _ h
theorem regionLast {P : Program} {id : Nat} {Q : Exit → Act → World → Prop} {a : Act} (W : World) {full : List Oper} (o : Oper) (hf : full.getLast? = some o) (hm : P.follows .mixedOrders = true) (hB : Region.lexB .any (full.dropLast ++ [idle o]).toArray = true) (hL : lastOk full.dropLast o = true) (hg : o.guard = none) (hd : o.dst = none)
  (h:wpQuiet P (full.dropLast++[idle o]).toArray (fun w'=>∃ x:Ext W,w'=x.w) (fun a'=>∀ w',(∃ x:Ext W,w'=x.w)→wpList P full.toArray Q [o] a' w') full.dropLast a):(Code.region id full.toArray true).wp P Q a W:=by
 have hfull:full=full.dropLast++[o]:=by
  have hne:full≠[]:=fun e=>by rw [e] at hf;cases hf
  rw [List.getLast?_eq_some_getLast hne] at hf
  injection hf with hf
  rw [← hf]
  exact (List.dropLast_concat_getLast hne).symm
 have hq:=quiet_snoc hg hd _ _ h
 simp only [Region.lexB,Bool.and_eq_true] at hB
 have h2:=wpAnyQ_lex (md:=.any) hB.1 (full.dropLast++[idle o]) 0 (Array.replicate (full.dropLast++[idle o]).toArray.size false) a (by simp) (by simpa using hB.2) hq
 have hgoal:(Code.region id (full.dropLast++[o]).toArray true).wp P Q a W→(Code.region id full.toArray true).wp P Q a W:=fun hh=>by rw [← hfull] at hh;exact hh
 refine hgoal ?_
 refine wp_region_any hm ?_
 have hn:(full.dropLast++[o]).toArray.size=full.dropLast.length+1:=by simp
 rw [hn]
 refine last_conv (C:=fun w'=>∃ x:Ext W,w'=x.w) (Qa:=fun a'=>∀ w',(∃ x:Ext W,w'=x.w)→wpList P full.toArray Q [o] a' w') hL hg hd (fun a' w' hC hh=>hh w' hC) _ _ _ _ (by simp) ?_ ⟨⟨{ W with drawn:=W.drawn+1 },⟨rfl,rfl,rfl,Nat.le_refl _,fun _ _=>rfl⟩⟩,rfl⟩ ?_
 ·simp [Array.getD]
 ·have e2:(full.dropLast++[idle o]).toArray.size=full.dropLast.length+1:=by simp
  rw [e2] at h2
  simpa using h2
end
section
set_option linter.unusedSimpArgs false
set_option linter.unusedVariables false
set_option maxRecDepth 100000
open Go.RowKit
set_option maxHeartbeats 1000000 in
theorem reckon1 {w : World} {R bm gk gc gs gr gv who n cv cr cs : Nat} {late : Int} {vc vk vm vt : Value} {nc cc : Nat} {pc st : Int} (r' a' b' : Nat) (nn va vb v0 : Int) (h : Rn w R bm gk gc gs gr gv who n cv cr cs late vc vk vm vt nc cc pc st) (hr : r' < 8) (ha : a' < 8) (hb : b' < 8) (lr : w.cell? ⟨gr, r', none⟩ = some (.int .i64 v0)) (la : w.cell? ⟨gr, a', none⟩ = some (.int .i64 va)) (lb : w.cell? ⟨gr, b', none⟩ = some (.int .i64 vb)) (fr : ∀ j, w.frozen? ⟨gr, j, none⟩ = false) :
  Calls Tryz.prog 159 #[.pointer (some ⟨R,0,none⟩),.agg #[.int .i64 1,.int .i64 r',.int .i64 a',.int .i64 b',.int .i64 nn]] w fun e w'=>e=.returned (.tuple #[])∧Below w.heap.size (w.setCell ⟨gr,r',none⟩ (.int .i64 (reckV 1 nn va vb))) w':=by
 obtain ⟨r0,r1,r2,r3,r4,m0,m1,m2,m3,fm,ec,c0,k0,k1,k3,fk,wc,zR,zm,zk,zc,zr⟩:=h
 have br0:(0:Int)≤(r':Int):=by omega
 have br1:(r':Int) < 8:=by omega
 have ba0:(0:Int)≤(a':Int):=by omega
 have ba1:(a':Int) < 8:=by omega
 have bb0:(0:Int)≤(b':Int):=by omega
 have bb1:(b':Int) < 8:=by omega
 go_enter Tryz.func159,Tryz.ntmps159
 go_wp2
 go_end0
 exact ⟨rfl,by unfold reckV;rw [if_pos rfl];exact (Below.refl _ _).alloc (by simp) _⟩
set_option maxHeartbeats 1000000 in
theorem reckon2 {w : World} {R bm gk gc gs gr gv who n cv cr cs : Nat} {late : Int} {vc vk vm vt : Value} {nc cc : Nat} {pc st : Int} (r' a' b' : Nat) (nn va vb v0 : Int) (h : Rn w R bm gk gc gs gr gv who n cv cr cs late vc vk vm vt nc cc pc st) (hr : r' < 8) (ha : a' < 8) (hb : b' < 8) (lr : w.cell? ⟨gr, r', none⟩ = some (.int .i64 v0)) (la : w.cell? ⟨gr, a', none⟩ = some (.int .i64 va)) (lb : w.cell? ⟨gr, b', none⟩ = some (.int .i64 vb)) (fr : ∀ j, w.frozen? ⟨gr, j, none⟩ = false) :
  Calls Tryz.prog 159 #[.pointer (some ⟨R,0,none⟩),.agg #[.int .i64 2,.int .i64 r',.int .i64 a',.int .i64 b',.int .i64 nn]] w fun e w'=>e=.returned (.tuple #[])∧Below w.heap.size (w.setCell ⟨gr,r',none⟩ (.int .i64 (reckV 2 nn va vb))) w':=by
 obtain ⟨r0,r1,r2,r3,r4,m0,m1,m2,m3,fm,ec,c0,k0,k1,k3,fk,wc,zR,zm,zk,zc,zr⟩:=h
 have br0:(0:Int)≤(r':Int):=by omega
 have br1:(r':Int) < 8:=by omega
 have ba0:(0:Int)≤(a':Int):=by omega
 have ba1:(a':Int) < 8:=by omega
 have bb0:(0:Int)≤(b':Int):=by omega
 have bb1:(b':Int) < 8:=by omega
 obtain ⟨q,hq⟩:∃ q,IntKind.i64.wrap (va+vb)=q:=⟨_,rfl⟩
 go_enter Tryz.func159,Tryz.ntmps159
 go_wp2_with fail
 obtain ⟨V,hV⟩:∃ V,w.alloc (.cells #[.int .i64 2,.int .i64 r',.int .i64 a',.int .i64 b',.int .i64 nn] 141)=V:=⟨_,rfl⟩
 have kv:Below w.heap.size w V:=by subst hV;exact (Below.refl _ _).alloc (Nat.le_refl _) _
 have zv:w.heap.size < V.heap.size:=by subst hV;simp
 have t1:V.cell? ⟨w.heap.size,1,none⟩=some (.int .i64 r'):=by subst hV;simp [go_sem]
 have t2:V.cell? ⟨w.heap.size,2,none⟩=some (.int .i64 a'):=by subst hV;simp [go_sem]
 have t3:V.cell? ⟨w.heap.size,3,none⟩=some (.int .i64 b'):=by subst hV;simp [go_sem]
 rw [hV]
 have KV:=hidM1 kv
 have hne:=ext_ne V
 have u1:=Ext.fit t1 zv
 have u2:=Ext.fit t2 zv
 have u3:=Ext.fit t3 zv
 have ua:=Ext.fit ((kv.cell (p:=⟨gr,a',none⟩) zr).trans la) (by omega)
 have ub:=Ext.fit ((kv.cell (p:=⟨gr,b',none⟩) zr).trans lb) (by omega)
 refine regionLast V _ rfl (by kernel_rfl) (by kernel_rfl) (by kernel_rfl) rfl rfl ?_
 dsimp only [List.dropLast,List.cons_append,List.nil_append,idle]
 repeat (go_big_quiet_step (fail))
 refine wpQuiet_nil ?_
 rintro w3 ⟨X3,rfl⟩
 obtain ⟨V2,hV2⟩:∃ V2,X3.w=V2:=⟨_,rfl⟩
 have hb2:=X3.b
 rw [hV2] at hb2 ⊢
 have K2:Hid (Below w.heap.size w V2):=KV.out.trans (hb2.mono (by omega))
 have lr2:=(K2.out.cell (p:=⟨gr,r',none⟩) zr).trans lr
 have fr2:∀ j,V2.frozen? ⟨gr,j,none⟩=false:=fun j=>(K2.out.frozen (p:=⟨gr,j,none⟩) zr).trans (fr j)
 clear hne u1 u2 u3 ua ub hV2 hb2 X3 kv hV t1 t2 t3
 go_wp2
 go_end0
 exact ⟨rfl,by unfold reckV wI;rw [if_neg (by decide),if_pos rfl,hq];exact below_pair K2.out⟩
set_option maxHeartbeats 1000000 in
theorem reckon3 {w : World} {R bm gk gc gs gr gv who n cv cr cs : Nat} {late : Int} {vc vk vm vt : Value} {nc cc : Nat} {pc st : Int} (r' a' b' : Nat) (nn va vb v0 : Int) (h : Rn w R bm gk gc gs gr gv who n cv cr cs late vc vk vm vt nc cc pc st) (hr : r' < 8) (ha : a' < 8) (hb : b' < 8) (lr : w.cell? ⟨gr, r', none⟩ = some (.int .i64 v0)) (la : w.cell? ⟨gr, a', none⟩ = some (.int .i64 va)) (lb : w.cell? ⟨gr, b', none⟩ = some (.int .i64 vb)) (fr : ∀ j, w.frozen? ⟨gr, j, none⟩ = false) :
  Calls Tryz.prog 159 #[.pointer (some ⟨R,0,none⟩),.agg #[.int .i64 3,.int .i64 r',.int .i64 a',.int .i64 b',.int .i64 nn]] w fun e w'=>e=.returned (.tuple #[])∧Below w.heap.size (w.setCell ⟨gr,r',none⟩ (.int .i64 (reckV 3 nn va vb))) w':=by
 obtain ⟨r0,r1,r2,r3,r4,m0,m1,m2,m3,fm,ec,c0,k0,k1,k3,fk,wc,zR,zm,zk,zc,zr⟩:=h
 have br0:(0:Int)≤(r':Int):=by omega
 have br1:(r':Int) < 8:=by omega
 have ba0:(0:Int)≤(a':Int):=by omega
 have ba1:(a':Int) < 8:=by omega
 have bb0:(0:Int)≤(b':Int):=by omega
 have bb1:(b':Int) < 8:=by omega
 obtain ⟨q,hq⟩:∃ q,IntKind.i64.wrap (va - vb)=q:=⟨_,rfl⟩
 go_enter Tryz.func159,Tryz.ntmps159
 go_wp2_with fail
 obtain ⟨V,hV⟩:∃ V,w.alloc (.cells #[.int .i64 3,.int .i64 r',.int .i64 a',.int .i64 b',.int .i64 nn] 141)=V:=⟨_,rfl⟩
 have kv:Below w.heap.size w V:=by subst hV;exact (Below.refl _ _).alloc (Nat.le_refl _) _
 have zv:w.heap.size < V.heap.size:=by subst hV;simp
 have t1:V.cell? ⟨w.heap.size,1,none⟩=some (.int .i64 r'):=by subst hV;simp [go_sem]
 have t2:V.cell? ⟨w.heap.size,2,none⟩=some (.int .i64 a'):=by subst hV;simp [go_sem]
 have t3:V.cell? ⟨w.heap.size,3,none⟩=some (.int .i64 b'):=by subst hV;simp [go_sem]
 rw [hV]
 have KV:=hidM1 kv
 have hne:=ext_ne V
 have u1:=Ext.fit t1 zv
 have u2:=Ext.fit t2 zv
 have u3:=Ext.fit t3 zv
 have ua:=Ext.fit ((kv.cell (p:=⟨gr,a',none⟩) zr).trans la) (by omega)
 have ub:=Ext.fit ((kv.cell (p:=⟨gr,b',none⟩) zr).trans lb) (by omega)
 refine regionLast V _ rfl (by kernel_rfl) (by kernel_rfl) (by kernel_rfl) rfl rfl ?_
 dsimp only [List.dropLast,List.cons_append,List.nil_append,idle]
 repeat (go_big_quiet_step (fail))
 refine wpQuiet_nil ?_
 rintro w3 ⟨X3,rfl⟩
 obtain ⟨V2,hV2⟩:∃ V2,X3.w=V2:=⟨_,rfl⟩
 have hb2:=X3.b
 rw [hV2] at hb2 ⊢
 have K2:Hid (Below w.heap.size w V2):=KV.out.trans (hb2.mono (by omega))
 have lr2:=(K2.out.cell (p:=⟨gr,r',none⟩) zr).trans lr
 have fr2:∀ j,V2.frozen? ⟨gr,j,none⟩=false:=fun j=>(K2.out.frozen (p:=⟨gr,j,none⟩) zr).trans (fr j)
 clear hne u1 u2 u3 ua ub hV2 hb2 X3 kv hV t1 t2 t3
 go_wp2
 go_end0
 exact ⟨rfl,by unfold reckV wI;rw [if_neg (by decide),if_neg (by decide),if_pos rfl,hq];exact below_pair K2.out⟩
set_option maxHeartbeats 1000000 in
theorem reckon4 {w : World} {R bm gk gc gs gr gv who n cv cr cs : Nat} {late : Int} {vc vk vm vt : Value} {nc cc : Nat} {pc st : Int} (r' a' b' : Nat) (nn va vb v0 : Int) (h : Rn w R bm gk gc gs gr gv who n cv cr cs late vc vk vm vt nc cc pc st) (hr : r' < 8) (ha : a' < 8) (hb : b' < 8) (lr : w.cell? ⟨gr, r', none⟩ = some (.int .i64 v0)) (la : w.cell? ⟨gr, a', none⟩ = some (.int .i64 va)) (lb : w.cell? ⟨gr, b', none⟩ = some (.int .i64 vb)) (fr : ∀ j, w.frozen? ⟨gr, j, none⟩ = false) :
  Calls Tryz.prog 159 #[.pointer (some ⟨R,0,none⟩),.agg #[.int .i64 4,.int .i64 r',.int .i64 a',.int .i64 b',.int .i64 nn]] w fun e w'=>e=.returned (.tuple #[])∧Below w.heap.size (w.setCell ⟨gr,r',none⟩ (.int .i64 (reckV 4 nn va vb))) w':=by
 obtain ⟨r0,r1,r2,r3,r4,m0,m1,m2,m3,fm,ec,c0,k0,k1,k3,fk,wc,zR,zm,zk,zc,zr⟩:=h
 have br0:(0:Int)≤(r':Int):=by omega
 have br1:(r':Int) < 8:=by omega
 have ba0:(0:Int)≤(a':Int):=by omega
 have ba1:(a':Int) < 8:=by omega
 have bb0:(0:Int)≤(b':Int):=by omega
 have bb1:(b':Int) < 8:=by omega
 go_enter Tryz.func159,Tryz.ntmps159
 go_wp2_with fail
 obtain ⟨V,hV⟩:∃ V,w.alloc (.cells #[.int .i64 4,.int .i64 r',.int .i64 a',.int .i64 b',.int .i64 nn] 141)=V:=⟨_,rfl⟩
 have kv:Below w.heap.size w V:=by subst hV;exact (Below.refl _ _).alloc (Nat.le_refl _) _
 have zv:w.heap.size < V.heap.size:=by subst hV;simp
 have t1:V.cell? ⟨w.heap.size,1,none⟩=some (.int .i64 r'):=by subst hV;simp [go_sem]
 have t2:V.cell? ⟨w.heap.size,2,none⟩=some (.int .i64 a'):=by subst hV;simp [go_sem]
 have t3:V.cell? ⟨w.heap.size,3,none⟩=some (.int .i64 b'):=by subst hV;simp [go_sem]
 rw [hV]
 have KV:=hidM1 kv
 have hne:=ext_ne V
 have u1:=Ext.fit t1 zv
 have u2:=Ext.fit t2 zv
 have u3:=Ext.fit t3 zv
 have ua:=Ext.fit ((kv.cell (p:=⟨gr,a',none⟩) zr).trans la) (by omega)
 have ub:=Ext.fit ((kv.cell (p:=⟨gr,b',none⟩) zr).trans lb) (by omega)
 refine regionLast V _ rfl (by kernel_rfl) (by kernel_rfl) (by kernel_rfl) rfl rfl ?_
 dsimp only [List.dropLast,List.cons_append,List.nil_append,idle]
 repeat (go_big_quiet_step ((rename_i X;go_at_call 165;refine (lessOf_any _ _ _).mono ?_;rintro e w3 ⟨rfl,hw3⟩;exact ⟨rfl,by rw [hw3];exact X.on (Below.refl _ _)⟩)))
 refine wpQuiet_nil ?_
 rintro w3 ⟨X3,rfl⟩
 obtain ⟨V2,hV2⟩:∃ V2,X3.w=V2:=⟨_,rfl⟩
 have hb2:=X3.b
 rw [hV2] at hb2 ⊢
 have K2:Hid (Below w.heap.size w V2):=KV.out.trans (hb2.mono (by omega))
 have lr2:=(K2.out.cell (p:=⟨gr,r',none⟩) zr).trans lr
 have fr2:∀ j,V2.frozen? ⟨gr,j,none⟩=false:=fun j=>(K2.out.frozen (p:=⟨gr,j,none⟩) zr).trans (fr j)
 clear hne u1 u2 u3 ua ub hV2 hb2 X3 kv hV t1 t2 t3
 go_wp2
 go_end0
 exact ⟨rfl,by unfold reckV;rw [if_neg (by decide),if_neg (by decide),if_neg (by decide)];exact below_pair K2.out⟩
end
section
set_option linter.unusedSimpArgs false
set_option linter.unusedVariables false
set_option maxRecDepth 100000
open Go.RowKit
theorem cellOf_n {w : World} {R : Nat} (o r a b n : Int) (hl : Plain.memB o = false ∨ a = -1) :
  Calls Tryz.prog 160 #[.pointer (some ⟨R,0,none⟩),.agg #[.int .i64 o,.int .i64 r,.int .i64 a,.int .i64 b,.int .i64 n]] w fun e w'=>e=.returned (.int .i64 n)∧Below w.heap.size w w':=by
 by_cases hm:Plain.memB o=false
 ·have HM:=hidM1 hm
  clear hl hm
  go_enter Tryz.func160,Tryz.ntmps160
  go_wp2_with (go_at_call 148;refine (mayLackA_any _ _).mono ?_;rintro e w' ⟨rfl,hw'⟩;rw [hw',HM.out];clear hw' w')
  go_ret
  exact ⟨rfl,(Below.refl _ _).alloc (Nat.le_refl _) _⟩
 ·have ha:a=-1:=hl.resolve_left hm
  subst ha
  have HM:Hid (Plain.memB o=true):=by show _=_;cases h:Plain.memB o;exact absurd h hm;rfl
  clear hl hm
  go_enter Tryz.func160,Tryz.ntmps160
  go_wp2_with (go_at_call 148;refine (mayLackA_any _ _).mono ?_;rintro e w' ⟨rfl,hw'⟩;rw [hw',HM.out];clear hw' w')
  go_ret
  exact ⟨rfl,(Below.refl _ _).alloc (Nat.le_refl _) _⟩
theorem cellOf_r {w : World} {R bm gk gc gs gr gv who nn cv cr cs : Nat} {late : Int} {vc vk vm vt : Value} {nc cc : Nat} {pc st : Int} (o r b n va : Int) (a' : Nat) (h : Rn w R bm gk gc gs gr gv who nn cv cr cs late vc vk vm vt nc cc pc st) (ha : a' < 8) (la : w.cell? ⟨gr, a', none⟩ = some (.int .i64 va)) (hm : Plain.memB o = true) :
  Calls Tryz.prog 160 #[.pointer (some ⟨R,0,none⟩),.agg #[.int .i64 o,.int .i64 r,.int .i64 a',.int .i64 b,.int .i64 n]] w fun e w'=>e=.returned (.int .i64 (wI (n+va)))∧Below w.heap.size w w':=by
 obtain ⟨r0,r1,r2,r3,r4,m0,m1,m2,m3,fm,ec,c0,k0,k1,k3,fk,wc,zR,zm,zk,zc,zr⟩:=h
 have ba0:(0:Int)≤(a':Int):=by omega
 have ba1:(a':Int) < 8:=by omega
 have ba2:¬ (a':Int)=-1:=by omega
 have HM:=hidM1 hm
 clear hm
 obtain ⟨q,hq⟩:∃ q,IntKind.i64.wrap (n+va)=q:=⟨_,rfl⟩
 go_enter Tryz.func160,Tryz.ntmps160
 go_wp2_with (go_at_call 148;refine (mayLackA_any _ _).mono ?_;rintro e w' ⟨rfl,hw'⟩;rw [hw',HM.out];clear hw' w')
 obtain ⟨V,hV⟩:∃ V,w.alloc (.cells #[.int .i64 o,.int .i64 r,.int .i64 a',.int .i64 b,.int .i64 n] 141)=V:=⟨_,rfl⟩
 have kv:Below w.heap.size w V:=by subst hV;exact (Below.refl _ _).alloc (Nat.le_refl _) _
 have zv:w.heap.size < V.heap.size:=by subst hV;simp
 have t2:V.cell? ⟨w.heap.size,2,none⟩=some (.int .i64 a'):=by subst hV;simp [go_sem]
 have t4:V.cell? ⟨w.heap.size,4,none⟩=some (.int .i64 n):=by subst hV;simp [go_sem]
 rw [hV]
 have KV:=hidM1 kv
 have hne:=ext_ne V
 have u2:=Ext.fit t2 zv
 have u4:=Ext.fit t4 zv
 have u0:=Ext.fit ((kv.cell (p:=⟨R,1,none⟩) zR).trans r1) (by omega)
 have u1:=Ext.fit ((kv.cell (p:=⟨gk,who * 4+1,none⟩) zk).trans k1) (by omega)
 have ua:=Ext.fit ((kv.cell (p:=⟨gr,a',none⟩) zr).trans la) (by omega)
 refine regionExt V (by kernel_rfl) (by kernel_rfl) ?_
 repeat (go_big_quiet_step (fail))
 refine wpQuiet_nil ?_
 rintro w3 ⟨X3,rfl⟩
 have K2:=hidM1 (KV.out.trans (X3.b.mono (Nat.le_of_lt zv)))
 clear hne u0 u1 u2 u4 ua t2 t4 kv hV
 go_wp2
 go_ret
 exact ⟨by show Ending.returned (Value.int .i64 q)=_;unfold wI;rw [hq],K2.out⟩
end
end Go.Proofs.YtlbeploopclegaaGreat
