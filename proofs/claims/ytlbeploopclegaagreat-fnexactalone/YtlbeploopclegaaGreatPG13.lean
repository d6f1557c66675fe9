/- Stores into a machine that runs: a core's place, its state, a register, its view. No condition. A machine that runs may be marked: its places are apart; what its memory reads is apart from its cores. No condition. A machine that runs, opened at the core that goes on; the boxes of a step. No condition. What steps of both sides end with. No condition. -/
import Derived.Test.YtlbeploopclegaaGreatPG00
import Derived.Test.YtlbeploopclegaaGreatPG01
import Derived.Test.YtlbeploopclegaaGreatPG02
import Derived.Test.YtlbeploopclegaaGreatPG08
import Derived.Test.YtlbeploopclegaaGreatPG11
import Derived.Test.YtlbeploopclegaaGreatPG12
import Derived.Test.YtlbeploopclegaaGreatPG03
import Derived.Test.YtlbeploopclegaaGreatPKDupM
import Derived.Test.YtlbeploopclegaaGreatPG05
import Derived.Test.YtlbeploopclegaaGreatPG04
namespace Go.Proofs.YtlbeploopclegaaGreat
section
set_option linter.unusedSimpArgs false
set_option linter.unusedVariables false
set_option maxRecDepth 100000
open Go.RowKit
theorem setKV_at {α:Type} {L:List α} {k i:Nat} {y z:α} (h:(L.set k y)[i]? =some z):(i=k∧z=y∧k < L.length)∨(i≠k∧L[i]? =some z):=by
 rw [List.getElem?_set] at h
 by_cases e:k=i
 ·subst e
  rw [if_pos rfl] at h
  split at h
  ·injection h with h
   exact .inl ⟨rfl,h.symm,by assumption⟩
  ·cases h
 ·rw [if_neg e] at h
  exact .inr ⟨Ne.symm e,h⟩
theorem flatK_set:∀ (L:List KV) (k:Nat) (x:KV),L[k]? =some x→∀ z:Int,(flatK L).set (k * 4) (.int .i64 z)=flatK (L.set k ⟨{ x.d with pc:=z },x.r,x.v⟩)∧(flatK L).set (k * 4+3) (.int .i64 z)=flatK (L.set k ⟨{ x.d with st:=z },x.r,x.v⟩)
 | [],k,x,h,z=>by simp at h
 | y::r,0,x,h,z=>by simp at h;subst h;exact ⟨rfl,rfl⟩
 | y::r,k+1,x,h,z=>by
  have q:=flatK_set r k x (by simpa using h) z
  have e1:(k+1) * 4=k * 4+1+1+1+1:=by omega
  have e2:(k+1) * 4+3=(k * 4+3)+1+1+1+1:=by omega
  refine ⟨?_,?_⟩
  ·rw [e1]
   show _::_::_::_::(flatK r).set (k * 4) _=_::_::_::_::flatK (r.set k _)
   rw [q.1]
  ·rw [e2]
   show _::_::_::_::(flatK r).set (k * 4+3) _=_::_::_::_::flatK (r.set k _)
   rw [q.2]
theorem flatK_same:∀ (L:List KV) (k:Nat) (a b:KV),L[k]? =some a→a.d.pc=b.d.pc→a.d.st=b.d.st→a.r=b.r→a.v=b.v→flatK (L.set k b)=flatK L
 | [],k,a,b,h,_,_,_,_=>by simp at h
 | y::r,0,a,b,h,h1,h2,h3,h4=>by simp at h;subst h;show [_,_,_,_]++flatK r=[_,_,_,_]++flatK r;rw [h1,h2,h3,h4]
 | y::r,k+1,a,b,h,h1,h2,h3,h4=>by show [_,_,_,_]++flatK (r.set k b)=[_,_,_,_]++flatK r;rw [flatK_same r k a b (by simpa using h) h1 h2 h3 h4]
/- one core's data turned, its rows where they were; the row of cores given anew -/
theorem OwnK.turn {w w':World} {B:Nat} {v:Value} {L:List KV} {i:Nat} {x y:KV} (h:OwnK w B v L) (hx:L[i]? =some x) (hr:y.r=x.r) (hv:y.v=x.v) (hrow:w'.ownsRow B 53 4 v L.length (flatK (L.set i y))) (hy:OwnN w' B y.r y.d.regs∧OwnN w' B y.v y.d.vw) (hk:∀ (j:Nat) (z:KV),j≠i→L[j]? =some z→OwnN w' B z.r z.d.regs∧OwnN w' B z.v z.d.vw):OwnK w' B v (L.set i y):=by
 refine ⟨by rw [List.length_set];exact hrow,fun j z hz=>?_,fun j z k hz=>?_,fun j j' z z' k hz hz' hne=>?_⟩
 ·rcases setKV_at hz with ⟨rfl,rfl,-⟩ | ⟨hj,hz⟩
  ·exact hy
  ·exact hk j z hj hz
 ·rcases setKV_at hz with ⟨rfl,rfl,-⟩ | ⟨hj,hz⟩
  ·rw [hr,hv];exact h.two _ x k hx
  ·exact h.two j z k hz
 ·rcases setKV_at hz with ⟨e1,e2,-⟩ | ⟨hj,q1⟩
  ·rcases setKV_at hz' with ⟨e3,e4,-⟩ | ⟨hj',q2⟩
   ·exact absurd (e1.trans e3.symm) hne
   ·subst e1 e2
    rw [hr,hv]
    exact h.sep _ j' x z' k hx q2 hne
  ·rcases setKV_at hz' with ⟨e3,e4,-⟩ | ⟨hj',q2⟩
   ·subst e3 e4
    rw [hr,hv]
    exact h.sep j _ z x k q1 hx hne
   ·exact h.sep j j' z z' k q1 q2 hne
theorem sk_turn {L:List KV} {S:List RS} {i:Nat} {x y:KV} (h:∀ (i:Nat) (x:KV) (q:Nat),L[i]? =some x→(x.r.ownBlock=some q∨x.v.ownBlock=some q)→∀ a∈mAs S,a.block≠q) (hx:L[i]? =some x) (hr:y.r=x.r) (hv:y.v=x.v):∀ (j:Nat) (z:KV) (q:Nat),(L.set i y)[j]? =some z→(z.r.ownBlock=some q∨z.v.ownBlock=some q)→∀ a∈mAs S,a.block≠q:=fun j z q hz hq=>by
 rcases setKV_at hz with ⟨rfl,rfl,-⟩ | ⟨hj,hz⟩
 ·rw [hr,hv] at hq;exact h _ x q hx hq
 ·exact h j z q hz hq
/- a store into the row of cores -/
theorem MQ0.setK {w : World} {B g c : Nat} {vc vm vt : Value} {LC : List CV} {LK : List KV} {S : List RS} {d : MD} (h : MQ0 w B vc (.slice (some ⟨g, 0, none⟩) LK.length c) vm vt LC LK S d) {i : Nat} {x : KV} (hx : LK[i]? = some x) (z : Int) :
  MQ0 (w.setCell ⟨g,i * 4,none⟩ (.int .i64 z)) B vc (.slice (some ⟨g,0,none⟩) LK.length c) vm vt LC (LK.set i ⟨{ x.d with pc:=z },x.r,x.v⟩) S (putK d i { x.d with pc:=z })
  ∧MQ0 (w.setCell ⟨g,i * 4+3,none⟩ (.int .i64 z)) B vc (.slice (some ⟨g,0,none⟩) LK.length c) vm vt LC (LK.set i ⟨{ x.d with st:=z },x.r,x.v⟩) S (putK d i { x.d with st:=z }):=by
 have ne:∀ {e:TypeId} {size n:Nat} {u:Value} {xs:List Value} (j:Nat) (v:Value),w.ownsRow B e size u n xs→e≠53→∀ k,u.ownBlock=some k→(w.setCell ⟨g,j,none⟩ v).heap[k]? =w.heap[k]? :=fun j v hu he k hk'=>Below.heap_setCell _ _ _ k (fun e=>ownType' hu h.k.row he hk' (by rw [e];rfl))
 have oc:∀ (j:Nat) (v:Value),OwnC (w.setCell ⟨g,j,none⟩ v) B vc LC:=fun j v=>⟨ownKeep' h.c.row (ne j v h.c.row (by decide)),fun i' x' hx'=>ownKeep' (h.c.inn i' x' hx') (ne j v (h.c.inn i' x' hx') (by decide)),h.c.sep⟩
 have om:∀ (j:Nat) (v:Value),OW (w.setCell ⟨g,j,none⟩ v) B vm S d.mem:=fun j v=>by
  refine ⟨h.m.n,ownKeep' h.m.row (ne j v h.m.row (by decide)),fun i' r l hr hl=>?_,h.m.d⟩
  have q:=h.m.r i' r l hr hl
  refine q.kept (ne j v q.own (by decide)) (fun a ha=>Below.heap_setCell _ _ _ _ (fun e=>?_)) (by simp)
  obtain ⟨cs,f,c1⟩:=q.vt a ha
  obtain ⟨cs',f',c2⟩:=own_ty h.k.row (k:=g) rfl
  rw [e,c2] at c1
  injection c1 with c1
  injection c1 with _ c1
  exact absurd c1 (by decide)
 have on:∀ (j:Nat) (v:Value),OwnD (w.setCell ⟨g,j,none⟩ v) B vt d.tr:=fun j v=>ownKeep' h.t (ne j v h.t (by decide))
 have oi:∀ (j:Nat) (v:Value) (i':Nat) (x':KV),LK[i']? =some x'→OwnN (w.setCell ⟨g,j,none⟩ v) B x'.r x'.d.regs∧OwnN (w.setCell ⟨g,j,none⟩ v) B x'.v x'.d.vw:=fun j v i' x' hx'=>⟨ownKeep' (h.k.inn i' x' hx').1 (ne j v (h.k.inn i' x' hx').1 (by decide)),ownKeep' (h.k.inn i' x' hx').2 (ne j v (h.k.inn i' x' hx').2 (by decide))⟩
 have fs:=flatK_set LK i x hx z
 refine ⟨⟨oc _ _,h.ec,?_,?_,om _ _,on _ _,sk_turn h.sk hx rfl rfl⟩,⟨oc _ _,h.ec,?_,?_,om _ _,on _ _,sk_turn h.sk hx rfl rfl⟩⟩
 ·refine h.k.turn hx rfl rfl ?_ (oi _ _ i x hx) (fun j z' _ hz'=>oi _ _ j z' hz')
  have r:=(World.ownsRow.stored h.k.row (i * 4) (.int .i64 z)).1
  rw [fs.1] at r
  exact r
 ·show (LK.set i _).map KV.d=d.cores.set i _
  rw [List.map_set,h.ek]
 ·refine h.k.turn hx rfl rfl ?_ (oi _ _ i x hx) (fun j z' _ hz'=>oi _ _ j z' hz')
  have r:=(World.ownsRow.stored h.k.row (i * 4+3) (.int .i64 z)).1
  rw [fs.2] at r
  exact r
 ·show (LK.set i _).map KV.d=d.cores.set i _
  rw [List.map_set,h.ek]
/- a store into a register -/
theorem MQ0.setR {w : World} {B g c j : Nat} {vc vk vm vt : Value} {LC : List CV} {LK : List KV} {S : List RS} {d : MD} (h : MQ0 w B vc vk vm vt LC LK S d) {i : Nat} {x : KV} (hx : LK[i]? = some x) (hr : x.r = .slice (some ⟨g, 0, none⟩) x.d.regs.length c) (z : Int) :
  MQ0 (w.setCell ⟨g,j,none⟩ (.int .i64 z)) B vc vk vm vt LC (LK.set i ⟨{ x.d with regs:=x.d.regs.set j z },x.r,x.v⟩) S (putK d i { x.d with regs:=x.d.regs.set j z }):=by
 have hxo:=(h.k.inn i x hx).1
 have hrow:w.ownsRow B 3 1 (.slice (some ⟨g,0,none⟩) x.d.regs.length c) x.d.regs.length (x.d.regs.map (Value.int .i64)):=by have q:=hxo;unfold OwnN at q;rw [hr] at q;exact q
 have hxb:x.r.ownBlock=some g:=by rw [hr];rfl
 have ne:∀ {e:TypeId} {size n:Nat} {u:Value} {xs:List Value},w.ownsRow B e size u n xs→e≠3→∀ k,u.ownBlock=some k→(w.setCell ⟨g,j,none⟩ (.int .i64 z)).heap[k]? =w.heap[k]? :=fun hu he k hk'=>Below.heap_setCell _ _ _ k (fun e=>ownType' hu hrow he hk' (by rw [e];rfl))
 have nn:∀ {u:Value} {l:List Int},OwnN w B u l→u.ownBlock≠some g→OwnN (w.setCell ⟨g,j,none⟩ (.int .i64 z)) B u l:=fun hu hn=>ownKeep' hu (fun k hk=>Below.heap_setCell _ _ _ k (fun e=>hn (hk.trans (congrArg some e))))
 refine ⟨⟨ownKeep' h.c.row (ne h.c.row (by decide)),fun i' x' hx'=>ownKeep' (h.c.inn i' x' hx') (ne (h.c.inn i' x' hx') (by decide)),h.c.sep⟩,h.ec,?_,?_,?_,ownKeep' h.t (ne h.t (by decide)),sk_turn h.sk hx rfl rfl⟩
 ·refine h.k.turn hx rfl rfl ?_ ⟨?_,nn (h.k.inn i x hx).2 (h.k.two i x g hx hxb)⟩ (fun j' z' hj hz'=>?_)
  ·have r:=ownKeep' h.k.row (ne h.k.row (by decide))
   have e:=flatK_same LK i x ⟨{ x.d with regs:=x.d.regs.set j z },x.r,x.v⟩ hx rfl rfl rfl rfl
   rw [e]
   exact r
  ·show (w.setCell ⟨g,j,none⟩ (.int .i64 z)).ownsRow B 3 1 x.r (x.d.regs.set j z).length ((x.d.regs.set j z).map (Value.int .i64))
   rw [hr,List.length_set,List.map_set]
   exact (World.ownsRow.stored hrow j (.int .i64 z)).1
  ·have q:=h.k.sep i j' x z' g hx hz' (Ne.symm hj) (.inl hxb)
   exact ⟨nn (h.k.inn j' z' hz').1 (fun e=>q (.inl e)),nn (h.k.inn j' z' hz').2 (fun e=>q (.inr e))⟩
 ·show (LK.set i _).map KV.d=d.cores.set i _
  rw [List.map_set,h.ek]
 ·refine ⟨h.m.n,ownKeep' h.m.row (ne h.m.row (by decide)),fun i' r l hr' hl=>?_,h.m.d⟩
  have q:=h.m.r i' r l hr' hl
  refine q.kept (ne q.own (by decide)) (fun a ha=>Below.heap_setCell _ _ _ _ (fun e=>?_)) (by simp)
  refine h.sk i x g hx (.inl hxb) a (mem_mAs.2 ⟨r,List.mem_of_getElem? hr',mem_rAs.2 (.inr (mem_vsA.1 ha))⟩) e
theorem flatK_setV:∀ (L:List KV) (k:Nat) (x:KV) (u:Value) (l:List Int),L[k]? =some x→(flatK L).set (k * 4+2) u=flatK (L.set k ⟨{ x.d with vw:=l },x.r,u⟩)
 | [],k,x,u,l,h=>by simp at h
 | y::r,0,x,u,l,h=>by simp at h;subst h;rfl
 | y::r,k+1,x,u,l,h=>by
  have q:=flatK_setV r k x u l (by simpa using h)
  have e2:(k+1) * 4+2=(k * 4+2)+1+1+1+1:=by omega
  rw [e2]
  show _::_::_::_::(flatK r).set (k * 4+2) _=_::_::_::_::flatK (r.set k _)
  rw [q]
/- another view put in its place: it lies apart from all that the machine has -/
theorem MQ0.setV {w : World} {B g c : Nat} {vc vm vt : Value} {LC : List CV} {LK : List KV} {S : List RS} {d : MD} (h : MQ0 w B vc (.slice (some ⟨g, 0, none⟩) LK.length c) vm vt LC LK S d) {i : Nat} {x : KV} (hx : LK[i]? = some x) (u : Value) (l : List Int) (hu : OwnN w B u l) (hf : ∀ q, u.ownBlock = some q → (∀ (j : Nat) (z : KV), LK[j]? = some z → ¬ (z.r.ownBlock = some q ∨ z.v.ownBlock = some q)) ∧ ∀ a ∈ mAs S, a.block ≠ q) :
  MQ0 (w.setCell ⟨g,i * 4+2,none⟩ u) B vc (.slice (some ⟨g,0,none⟩) LK.length c) vm vt LC (LK.set i ⟨{ x.d with vw:=l },x.r,u⟩) S (putK d i { x.d with vw:=l }):=by
 have ne:∀ {e:TypeId} {size n:Nat} {u':Value} {xs:List Value},w.ownsRow B e size u' n xs→e≠53→∀ k,u'.ownBlock=some k→(w.setCell ⟨g,i * 4+2,none⟩ u).heap[k]? =w.heap[k]? :=fun hu he k hk'=>Below.heap_setCell _ _ _ k (fun e=>ownType' hu h.k.row he hk' (by rw [e];rfl))
 have oi:∀ (i':Nat) (x':KV),LK[i']? =some x'→OwnN (w.setCell ⟨g,i * 4+2,none⟩ u) B x'.r x'.d.regs∧OwnN (w.setCell ⟨g,i * 4+2,none⟩ u) B x'.v x'.d.vw:=fun i' x' hx'=>⟨ownKeep' (h.k.inn i' x' hx').1 (ne (h.k.inn i' x' hx').1 (by decide)),ownKeep' (h.k.inn i' x' hx').2 (ne (h.k.inn i' x' hx').2 (by decide))⟩
 refine ⟨⟨ownKeep' h.c.row (ne h.c.row (by decide)),fun i' x' hx'=>ownKeep' (h.c.inn i' x' hx') (ne (h.c.inn i' x' hx') (by decide)),h.c.sep⟩,h.ec,⟨?_,fun j z hz=>?_,fun j z k hz hk=>?_,fun j j' z z' k hz hz' hne hk=>?_⟩,?_,?_,ownKeep' h.t (ne h.t (by decide)),fun j z q hz hq=>?_⟩
 ·have r:=(World.ownsRow.stored h.k.row (i * 4+2) u).1
  rw [flatK_setV LK i x u l hx] at r
  rw [List.length_set]
  exact r
 ·rcases setKV_at hz with ⟨e1,e2,-⟩ | ⟨hj,q1⟩
  ·subst e1 e2
   exact ⟨(oi _ x hx).1,ownKeep' hu (ne hu (by decide))⟩
  ·exact oi j z q1
 ·rcases setKV_at hz with ⟨e1,e2,-⟩ | ⟨hj,q1⟩
  ·subst e1 e2
   exact fun e=>(hf k e).1 _ x hx (.inl hk)
  ·exact h.k.two j z k q1 hk
 ·rcases setKV_at hz with ⟨e1,e2,-⟩ | ⟨hj,q1⟩
  ·rcases setKV_at hz' with ⟨e3,e4,-⟩ | ⟨hj',q2⟩
   ·exact absurd (e1.trans e3.symm) hne
   ·subst e1 e2
    rcases hk with hk | hk
    ·exact h.k.sep _ j' x z' k hx q2 hne (.inl hk)
    ·exact (hf k hk).1 j' z' q2
  ·rcases setKV_at hz' with ⟨e3,e4,-⟩ | ⟨hj',q2⟩
   ·subst e3 e4
    rintro (e | e)
    ·exact h.k.sep j _ z x k q1 hx hne hk (.inl e)
    ·exact (hf k e).1 j z q1 hk
   ·exact h.k.sep j j' z z' k q1 q2 hne hk
 ·show (LK.set i _).map KV.d=d.cores.set i _
  rw [List.map_set,h.ek]
 ·refine ⟨h.m.n,ownKeep' h.m.row (ne h.m.row (by decide)),fun i' r l' hr hl=>?_,h.m.d⟩
  have q:=h.m.r i' r l' hr hl
  refine q.kept (ne q.own (by decide)) (fun a ha=>Below.heap_setCell _ _ _ _ (fun e=>?_)) (by simp)
  obtain ⟨cs,f,c1⟩:=q.vt a ha
  obtain ⟨cs',f',c2⟩:=own_ty h.k.row (k:=g) rfl
  rw [e,c2] at c1
  injection c1 with c1
  injection c1 with _ c1
  exact absurd c1 (by decide)
 ·rcases setKV_at hz with ⟨e1,e2,-⟩ | ⟨hj,q1⟩
  ·subst e1 e2
   rcases hq with hq | hq
   ·exact h.sk _ x q hx (.inl hq)
   ·exact (hf q hq).2
  ·exact h.sk j z q q1 hq
/- the memory behind a store: the rest of the machine stays -/
theorem MQ0.sto {w w' : World} {B gO cO k : Nat} {vc vk vt : Value} {LC : List CV} {LK : List KV} {S : List RS} {d : MD} {r r' : RS} {lr : List WD} {m' : List (List WD)} (h : MQ0 w B vc vk (.slice (some ⟨gO, 0, none⟩) d.mem.length cO) vt LC LK S d) (hk : S[k]? = some r) (hlm : d.mem[k]? = some lr) (hm : OW w' B (.slice (some ⟨gO, 0, none⟩) d.mem.length cO) (S.set k r') m')
  (hf:∀ b,b < w.heap.size→b≠gO→r.val.ownBlock≠some b→w'.heap[b]? =w.heap[b]?) (hp:∀ a∈mAs (S.set k r'),(∃ a'∈mAs S,a'.block=a.block)∨w.heap.size≤a.block):MQ0 w' B vc vk (.slice (some ⟨gO,0,none⟩) d.mem.length cO) vt LC LK (S.set k r') { d with mem:=m' }:=by
 have hro:=(h.m.r k r lr hk hlm).own
 have ne:∀ {e:TypeId} {size n:Nat} {u:Value} {xs:List Value},w.ownsRow B e size u n xs→e≠97→e≠99→∀ q,u.ownBlock=some q→w'.heap[q]? =w.heap[q]? :=fun hu h1 h2 q hq=>hf q (World.ownsRow.lt hu _ hq).2 (fun e=>ownType' hu h.m.row h1 hq (by rw [e];rfl)) (ownType' hu hro h2 hq)
 refine ⟨⟨ownKeep' h.c.row (ne h.c.row (by decide) (by decide)),fun i x hx=>ownKeep' (h.c.inn i x hx) (ne (h.c.inn i x hx) (by decide) (by decide)),h.c.sep⟩,h.ec,⟨ownKeep' h.k.row (ne h.k.row (by decide) (by decide)),fun i x hx=>⟨ownKeep' (h.k.inn i x hx).1 (ne (h.k.inn i x hx).1 (by decide) (by decide)),ownKeep' (h.k.inn i x hx).2 (ne (h.k.inn i x hx).2 (by decide) (by decide))⟩,h.k.two,h.k.sep⟩,h.ek,hm,ownKeep' h.t (ne h.t (by decide) (by decide)),fun i x q hx hq a ha e=>?_⟩
 rcases hp a ha with ⟨a',ha',e'⟩ | hlt
 ·exact h.sk i x q hx hq a' ha' (e'.trans e)
 ·have:q < w.heap.size:=by
   rcases hq with hq | hq
   ·exact (World.ownsRow.lt (h.k.inn i x hx).1 _ hq).2
   ·exact (World.ownsRow.lt (h.k.inn i x hx).2 _ hq).2
  omega
theorem HitQ.set {P:Nat→Prop} {vc vk vm vt:Value} {LC:List CV} {LK:List KV} {S:List RS} (h:HitQ P vc vk vm vt LC LK S) (i:Nat) (y:KV) (hy:∀ q,(y.r.ownBlock=some q∨y.v.ownBlock=some q)→P q):HitQ P vc vk vm vt LC (LK.set i y) S:=
 ⟨h.c,h.ci,h.k,fun j z q hz hq=>by
  rcases setKV_at hz with ⟨-,rfl,-⟩ | ⟨-,hz⟩
  ·exact hy q hq
  ·exact h.ki j z q hz hq,h.m,h.mi,h.t⟩
theorem HitQ.same {P:Nat→Prop} {vc vk vm vt:Value} {LC:List CV} {LK:List KV} {S:List RS} {i:Nat} {x:KV} (h:HitQ P vc vk vm vt LC LK S) (hx:LK[i]? =some x) (k:KD):HitQ P vc vk vm vt LC (LK.set i ⟨k,x.r,x.v⟩) S:=h.set i _ (fun q hq=>h.ki i x q hx hq)
theorem MQ.setK {Hq : Nat → Prop} {w : World} {B g c : Nat} {vc vm vt : Value} {LC : List CV} {LK : List KV} {S : List RS} {d : MD} (h : MQ w B Hq vc (.slice (some ⟨g, 0, none⟩) LK.length c) vm vt LC LK S d) {i : Nat} {x : KV} (hx : LK[i]? = some x) (z : Int) :
  MQ (w.setCell ⟨g,i * 4,none⟩ (.int .i64 z)) B Hq vc (.slice (some ⟨g,0,none⟩) LK.length c) vm vt LC (LK.set i ⟨{ x.d with pc:=z },x.r,x.v⟩) S (putK d i { x.d with pc:=z })
  ∧MQ (w.setCell ⟨g,i * 4+3,none⟩ (.int .i64 z)) B Hq vc (.slice (some ⟨g,0,none⟩) LK.length c) vm vt LC (LK.set i ⟨{ x.d with st:=z },x.r,x.v⟩) S (putK d i { x.d with st:=z }):=⟨⟨(h.toMQ0.setK hx z).1,h.hh.same hx _,by simpa using h.hn⟩,⟨(h.toMQ0.setK hx z).2,h.hh.same hx _,by simpa using h.hn⟩⟩
theorem MQ.setR {Hq : Nat → Prop} {w : World} {B g c j : Nat} {vc vk vm vt : Value} {LC : List CV} {LK : List KV} {S : List RS} {d : MD} (h : MQ w B Hq vc vk vm vt LC LK S d) {i : Nat} {x : KV} (hx : LK[i]? = some x) (hr : x.r = .slice (some ⟨g, 0, none⟩) x.d.regs.length c) (z : Int) :
  MQ (w.setCell ⟨g,j,none⟩ (.int .i64 z)) B Hq vc vk vm vt LC (LK.set i ⟨{ x.d with regs:=x.d.regs.set j z },x.r,x.v⟩) S (putK d i { x.d with regs:=x.d.regs.set j z }):=⟨h.toMQ0.setR hx hr z,h.hh.same hx _,by simpa using h.hn⟩
theorem MQ.setV {Hq : Nat → Prop} {w : World} {B g c : Nat} {vc vm vt : Value} {LC : List CV} {LK : List KV} {S : List RS} {d : MD} (h : MQ w B Hq vc (.slice (some ⟨g, 0, none⟩) LK.length c) vm vt LC LK S d) {i : Nat} {x : KV} (hx : LK[i]? = some x) (u : Value) (l : List Int) (hu : OwnN w B u l) (hf : ∀ q, u.ownBlock = some q → ((∀ (j : Nat) (z : KV), LK[j]? = some z → ¬ (z.r.ownBlock = some q ∨ z.v.ownBlock = some q)) ∧ ∀ a ∈ mAs S, a.block ≠ q) ∧ Hq q) :
  MQ (w.setCell ⟨g,i * 4+2,none⟩ u) B Hq vc (.slice (some ⟨g,0,none⟩) LK.length c) vm vt LC (LK.set i ⟨{ x.d with vw:=l },x.r,u⟩) S (putK d i { x.d with vw:=l }):=⟨h.toMQ0.setV hx u l hu (fun q hq=>(hf q hq).1),h.hh.set i _ (fun q hq=>hq.elim (fun e=>h.hh.ki i x q hx (.inl e)) (fun e=>(hf q e).2)),by simpa using h.hn⟩
theorem MQ.sto {Hq : Nat → Prop} {w w' : World} {B gO cO k : Nat} {vc vk vt : Value} {LC : List CV} {LK : List KV} {S : List RS} {d : MD} {r r' : RS} {lr : List WD} {m' : List (List WD)} (h : MQ w B Hq vc vk (.slice (some ⟨gO, 0, none⟩) d.mem.length cO) vt LC LK S d) (hk : S[k]? = some r) (hlm : d.mem[k]? = some lr) (hm : OW w' B (.slice (some ⟨gO, 0, none⟩) d.mem.length cO) (S.set k r') m')
  (hf:∀ b,b < w.heap.size→b≠gO→r.val.ownBlock≠some b→w'.heap[b]? =w.heap[b]?) (hp:∀ a∈mAs (S.set k r'),(∃ a'∈mAs S,a'.block=a.block)∨w.heap.size≤a.block) (hz:w.heap.size≤w'.heap.size):MQ w' B Hq vc vk (.slice (some ⟨gO,0,none⟩) d.mem.length cO) vt LC LK (S.set k r') { d with mem:=m' }:=⟨h.toMQ0.sto hk hlm hm hf hp,⟨h.hh.c,h.hh.ci,h.hh.k,h.hh.ki,h.hh.m,fun a ha=>(hp a ha).elim (fun ⟨a',h1,h2⟩=>h2▸h.hh.mi a' h1) (fun e=>h.hn _ e),h.hh.t⟩,fun q hq=>h.hn q (Nat.le_trans hz hq)⟩
end
section
set_option linter.unusedSimpArgs false
set_option linter.unusedVariables false
set_option maxRecDepth 100000
open Go.RowKit
theorem OwnC.go' {w:World} {base:Nat} {v:Value} {L:List CV} (h:OwnC w base v L):∃ s c R,v=.slice s L.length c∧GO w base w.heap.size s TC R (L.map fun x=>codeV x.l)∧∀ a∈gAs s TC.length R 0,∃ (i:Nat) (x:CV),L[i]? =some x∧x.v.ownBlock=some a.block:=by
 rcases Nat.eq_zero_or_pos L.length with h0 | hpos
 ·obtain ⟨s,c,e⟩:=ownSl h.row
  rw [List.length_eq_zero_iff.1 h0]
  rw [h0] at e
  exact ⟨s,c,[],e,GO.nil _ _ _ _ _,fun a ha=>by simp [gAs] at ha⟩
 obtain ⟨g,cap,e,-⟩:=World.ownsRow.form h.row hpos
 have hlt:=World.ownsRow.lt h.row g (by rw [e];rfl)
 have hrow:=h.row
 rw [e] at hrow
 have step:∀ k,k≤L.length→∃ R,GO w base w.heap.size (some ⟨g,0,none⟩) TC R ((L.take k).map fun x=>codeV x.l)∧∀ a∈gAs (some ⟨g,0,none⟩) TC.length R 0,∃ (i:Nat) (x:CV),i < k∧L[i]? =some x∧x.v.ownBlock=some a.block:=by
  intro k
  induction k with
  | zero=>intro _;exact ⟨[],GO.nil _ _ _ _ _,fun a ha=>by simp [gAs] at ha⟩
  | succ k ih=>
   intro hk
   obtain ⟨R,hR,hA⟩:=ih (by omega)
   obtain ⟨x,hx⟩:∃ x,L[k]? =some x:=⟨_,List.getElem?_eq_getElem (by omega)⟩
   obtain ⟨s,c,ev,vo⟩:=own_vo (h.inn k x hx) (fl5_len x.l)
   have tl:((L.take k).map fun x=>codeV x.l).length=k:=by simp;omega
   have ow:∀ a∈vAs ((⟨s,x.l.length,c⟩:VS).wide 5),x.v.ownBlock=some a.block:=fun a ha=>by rw [ev];exact vo.own ha
   refine ⟨R++[[.r ⟨s,x.l.length,c⟩ 5]],?_,fun a ha=>?_⟩
   ·have et:(L.take (k+1)).map (fun x=>codeV x.l)=(L.take k).map (fun x=>codeV x.l)++[codeV x.l]:=by rw [List.take_add_one,hx];simp
    rw [et]
    refine GO.push _ _ hR ⟨_,_,rfl⟩ rfl rfl (fun _ _ _ _ _ _ _ _ _ _ hf=>hf) (fun j f u hf hu=>?_) (fun x' e' hx' a ha g' o' hg'=>?_) ?_ (fun a ha ha'=>?_)
    ·match j,hf,hu with
     | 0,hf,hu=>
      simp at hf
      simp [codeV] at hu
      subst hf hu
      rw [tl]
      refine ⟨?_,⟨hlt.1,hlt.2⟩,vo⟩
      have q:=World.ownsRow.cellAt hrow k (by omega)
      rw [List.getElem?_map,hx] at q
      simp only [Option.map_some] at q
      rw [ev] at q
      simpa [adr,TC] using q
    ·simp at hx'
     obtain ⟨rfl,rfl⟩:=hx'
     injection hg' with hg'
     injection hg' with hg'
     intro eb
     refine ownType' (h.inn k x hx) hrow (by decide) (ow a ha) ?_
     rw [eb,← hg']
     rfl
    ·simp only [recAs,fAs,List.append_nil]
     exact vo.nodup
    ·simp only [recAs,fAs,List.append_nil] at ha'
     obtain ⟨i,z,hi,hz,hb⟩:=hA a ha
     exact h.sep i k z x _ hz hx (by omega) hb (ow a ha')
   ·rw [gAs_append] at ha
    rcases List.mem_append.1 ha with ha | ha
    ·obtain ⟨i,z,hi,hz,hb⟩:=hA a ha
     exact ⟨i,z,by omega,hz,hb⟩
    ·simp only [gAs,recAs,fAs,List.append_nil] at ha
     exact ⟨k,x,by omega,hx,ow a ha⟩
 obtain ⟨R,hR,hA⟩:=step L.length (Nat.le_refl _)
 rw [List.take_length] at hR
 exact ⟨some ⟨g,0,none⟩,cap,R,e,hR,fun a ha=>by obtain ⟨i,x,-,h1,h2⟩:=hA a ha;exact ⟨i,x,h1,h2⟩⟩
def TyB (w:World) (b:Nat) (t:TypeId):Prop:=∃ cs f,w.heap[b]? =some (.cells cs t f)
theorem TyB.ne {w:World} {b:Nat} {t t':TypeId} (h:TyB w b t) (h':TyB w b t'):t=t':=by
 obtain ⟨cs,f,c⟩:=h
 obtain ⟨cs',f',c'⟩:=h'
 rw [c] at c'
 injection c' with c'
 injection c' with _ c'
theorem OW.ty {w:World} {B:Nat} {v:Value} {S:List RS} {m:List (List WD)} (h:OW w B v S m) {a:Addr} (ha:a∈mAs S):TyB w a.block 99∨TyB w a.block 3:=by
 obtain ⟨r,hr,har⟩:=mem_mAs.1 ha
 obtain ⟨i,hi,e⟩:=List.getElem_of_mem hr
 have hr':S[i]? =some r:=by rw [List.getElem?_eq_getElem hi,e]
 obtain ⟨l,hl⟩:=at_same h.n.symm hr'
 have q:=h.r i r l hr' hl
 rcases mem_rAs.1 har with ⟨j,hj,rfl⟩ | ⟨x,hx,hax⟩
 ·left
  rcases q.ro.c with e0 | ⟨g,o,es,-⟩
  ·have:=q.n
   rw [e0] at this
   simp at this
   rw [this] at hj
   simp at hj
  ·rw [es]
   exact own_ty q.own (by rw [RS.val,es];rfl)
 ·right
  exact q.vt a (mem_vsA.2 ⟨x,hx,hax⟩)
theorem MQ0.mo {w:World} {B:Nat} {vc vk vm vt:Value} {LC:List CV} {LK:List KV} {S:List RS} {d:MD} (h:MQ0 w B vc vk vm vt LC LK S d):∃ p:MP,vc=.slice p.s1 d.codes.length p.c1∧vk=.slice p.s2 d.cores.length p.c2∧vm=.slice p.s3 d.mem.length p.c3∧vt=.slice p.s4 d.tr.length p.c4∧MaO w B w.heap.size p d∧∀ (P:Nat→Prop),HitQ P vc vk vm vt LC LK S→∀ a∈p.as d,P a.block:=by
 obtain ⟨s1,c1,RC,e1,g1,a1⟩:=h.c.go'
 obtain ⟨s2,c2,RK,e2,g2,a2⟩:=h.k.go
 obtain ⟨s3,c3,e3,m3⟩:=h.m.om.mo
 obtain ⟨s4,c4,e4⟩:=ownSl h.t
 have l1:LC.length=d.codes.length:=by have:=congrArg List.length h.ec;simpa using this
 have l2:LK.length=d.cores.length:=by have:=congrArg List.length h.ek;simpa using this
 have q1:GO w B w.heap.size s1 TC RC (d.codes.map codeV):=by
  rw [← h.ec,List.map_map]
  exact g1
 have q2:GO w B w.heap.size s2 TK RK (d.cores.map coreV):=by
  rw [← h.ek,List.map_map]
  exact g2
 have ht:=h.t
 rw [e4] at ht
 have v4:=OwnD.vo ht rfl
 rw [l1] at e1
 rw [l2] at e2
 have t1:∀ a∈gAs s1 TC.length RC 0,TyB w a.block 141:=fun a ha=>by
  obtain ⟨i,x,hx,hb⟩:=a1 a ha
  exact own_ty (h.c.inn i x hx) hb
 have t2:∀ a∈gAs s2 TK.length RK 0,TyB w a.block 53∨(TyB w a.block 3∧∀ b∈mAs S,b.block≠a.block):=fun a ha=>by
  rcases a2 a ha with hb | ⟨i,x,hx,hb⟩
  ·exact .inl (own_ty h.k.row hb)
  ·refine .inr ⟨?_,fun b hb'=>h.sk i x _ hx hb b hb'⟩
   rcases hb with hb | hb
   ·exact own_ty (h.k.inn i x hx).1 hb
   ·exact own_ty (h.k.inn i x hx).2 hb
 have t4:∀ a∈vAs ((⟨s4,d.tr.length,c4⟩:VS).wide 2),TyB w a.block 105:=fun a ha=>own_ty ht (v4.own ha)
 refine ⟨⟨s1,c1,RC,s2,c2,RK,s3,c3,S,s4,c4⟩,e1,e2,e3,e4,⟨q1,q2,m3,v4,?_⟩,fun P hP a ha=>?_⟩
 unfold MP.as
 refine List.nodup_append.2 ⟨q1.d,List.nodup_append.2 ⟨q2.d,List.nodup_append.2 ⟨m3.d,v4.nodup,fun a ha b hb e=>?_⟩,fun a ha b hb e=>?_⟩,fun a ha b hb e=>?_⟩
 ·subst e
  rcases h.m.ty ha with q | q
  ·exact absurd (q.ne (t4 a hb)) (by decide)
  ·exact absurd (q.ne (t4 a hb)) (by decide)
 ·subst e
  rcases List.mem_append.1 hb with hb | hb
  ·rcases t2 a ha with q | ⟨q,hs⟩
   ·rcases h.m.ty hb with q' | q'
    ·exact absurd (q.ne q') (by decide)
    ·exact absurd (q.ne q') (by decide)
   ·exact hs a hb rfl
  ·rcases t2 a ha with q | ⟨q,-⟩
   ·exact absurd (q.ne (t4 a hb)) (by decide)
   ·exact absurd (q.ne (t4 a hb)) (by decide)
 ·subst e
  have q:=t1 a ha
  rcases List.mem_append.1 hb with hb | hb
  ·rcases t2 a hb with q' | ⟨q',-⟩
   ·exact absurd (q.ne q') (by decide)
   ·exact absurd (q.ne q') (by decide)
  ·rcases List.mem_append.1 hb with hb | hb
   ·rcases h.m.ty hb with q' | q'
    ·exact absurd (q.ne q') (by decide)
    ·exact absurd (q.ne q') (by decide)
   ·exact absurd (q.ne (t4 a hb)) (by decide)
 ·unfold MP.as at ha
  rcases List.mem_append.1 ha with ha | ha
  ·obtain ⟨i,x,hx,hb⟩:=a1 a ha
   exact hP.ci i x _ hx hb
  rcases List.mem_append.1 ha with ha | ha
  ·rcases a2 a ha with hb | ⟨i,x,hx,hb⟩
   ·exact hP.k _ hb
   ·exact hP.ki i x _ hx hb
  rcases List.mem_append.1 ha with ha | ha
  ·exact hP.mi a ha
  ·exact hP.t _ (by rw [e4];exact v4.own ha)
/- what a memory that is owned reads does not lie in a row of integers apart from its views -/
theorem OW.av {w:World} {B n c g:Nat} {s:Option Addr} {S:List RS} {m:List (List WD)} (h:OW w B (.slice s n c) S m) (ht:TyB w g 3) (hs:∀ a∈mAs S,a.block≠g):MemAv w s m g:=by
 intro gm om e
 subst e
 refine ⟨fun e=>?_,fun k gr or_ n1 c1 hk hc hn=>?_⟩
 ·subst e
  exact absurd (TyB.ne ht (own_ty h.row rfl)) (by decide)
 ·have om0:om=0:=by
   rcases h.row.2 with ⟨q,-⟩ | ⟨g',cap,cur,q,-⟩
   ·injection q with q;cases q
   ·injection q with q;injection q with q;injection q with _ q
  subst om0
  have hkS:k < S.length:=by have:=h.n;omega
  obtain ⟨r,hr⟩:∃ r,S[k]? =some r:=⟨_,List.getElem?_eq_getElem hkS⟩
  obtain ⟨l,hl⟩:∃ l,m[k]? =some l:=⟨_,List.getElem?_eq_getElem hk⟩
  have hrow:=h.row
  rcases hrow.2 with ⟨q,-⟩ | ⟨g',cap,cur,q,-⟩
  ·injection q with q;cases q
  injection q with q1 q2 q3
  subst q2
  have cc:=World.ownsRow.cellAt hrow k (by omega)
  rw [List.getElem?_map,hr] at cc
  rw [Nat.zero_add,cc] at hc
  have hc':r.val=.slice (some ⟨gr,or_,none⟩) n1 c1:=by simpa using hc
  unfold RS.val at hc'
  injection hc' with e1 e2 e3
  have q:=h.r k r l hr hl
  have hb:r.val.ownBlock=some gr:=by unfold RS.val;rw [e1];rfl
  refine ⟨fun e=>?_,fun j g2 o2 n2 c2 hj hcj hn2 e=>?_⟩
  ·subst e
   exact absurd (TyB.ne ht (own_ty q.own hb)) (by decide)
  ·have hjr:j < r.vs.length:=by omega
   obtain ⟨x,hx⟩:∃ x,r.vs[j]? =some x:=⟨_,List.getElem?_eq_getElem hjr⟩
   obtain ⟨y,hy⟩:=at_same q.n.symm hx
   rcases q.ro.c with e0 | ⟨g3,o3,es,-,-,hcc⟩
   ·rw [e0] at hy
    simp at hy
   ·obtain ⟨-,-,hv⟩:=hcc j x y hx hy
    rw [es] at e1
    injection e1 with e1
    injection e1 with e4 e5
    subst e4 e5
    rw [hv] at hcj
    injection hcj with hcj
    injection hcj with f1 f2 f3
    have hm:(⟨g2,o2,none⟩:Addr)∈vAs x:=mem_vAs.2 ⟨0,by omega,by rw [f1];rfl⟩
    have:=hs ⟨g2,o2,none⟩ (mem_mAs.2 ⟨r,List.mem_of_getElem? hr,mem_rAs.2 (.inr ⟨x,List.mem_of_getElem? hx,hm⟩)⟩)
    exact this e
end
section
set_option linter.unusedSimpArgs false
set_option linter.unusedVariables false
set_option maxRecDepth 100000
open Go.RowKit
structure Op8 (w:World) (B:Nat) (vc vk vm vt:Value) (LK:List KV) (d:MD) (who p:Nat) (k:KD) (code:List I5) (s:I5) (gc cc gk ck gs cs gr cr gv cv gO cO:Nat) (st:Option Addr) (ct:Nat):Prop where
 ec:vc=.slice (some ⟨gc,0,none⟩) d.codes.length cc
 ek:vk=.slice (some ⟨gk,0,none⟩) LK.length ck
 em:vm=.slice (some ⟨gO,0,none⟩) d.mem.length cO
 et:vt=.slice st d.tr.length ct
 hx:LK[who]? =some ⟨k,.slice (some ⟨gr,0,none⟩) 8 cr,.slice (some ⟨gv,0,none⟩) 24 cv⟩
 hp:k.pc=p
 wc:who < d.codes.length
 wk:who < LK.length
 c0:w.cell? ⟨gc,who,none⟩=some (.slice (some ⟨gs,0,none⟩) code.length cs)
 k0:w.cell? ⟨gk,who * 4,none⟩=some (.int .i64 k.pc)
 k1:w.cell? ⟨gk,who * 4+1,none⟩=some (.slice (some ⟨gr,0,none⟩) 8 cr)
 k2:w.cell? ⟨gk,who * 4+2,none⟩=some (.slice (some ⟨gv,0,none⟩) 24 cv)
 k3:w.cell? ⟨gk,who * 4+3,none⟩=some (.int .i64 k.st)
 s0:w.cell? ⟨gs,p * 5,none⟩=some (.int .i64 s.o)
 s1:w.cell? ⟨gs,p * 5+1,none⟩=some (.int .i64 s.r)
 s2:w.cell? ⟨gs,p * 5+2,none⟩=some (.int .i64 s.a)
 s3:w.cell? ⟨gs,p * 5+3,none⟩=some (.int .i64 s.b)
 s4:w.cell? ⟨gs,p * 5+4,none⟩=some (.int .i64 s.n)
 r:∀ i,i < 8→w.cell? ⟨gr,i,none⟩=some (.int .i64 (k.regs.getD i 0))
 fk:∀ j,w.frozen? ⟨gk,j,none⟩=false
 fr:∀ j,w.frozen? ⟨gr,j,none⟩=false
 zc:gc < w.heap.size
 zk:gk < w.heap.size
 zs:gs < w.heap.size
 zr:gr < w.heap.size
 zv:gv < w.heap.size
 zO:gO < w.heap.size
 bk:B≤gk
 br:B≤gr
 bv:B≤gv
 bO:B≤gO
theorem MQ0.open {w : World} {B : Nat} {vc vk vm vt : Value} {LC : List CV} {LK : List KV} {S : List RS} {d : MD} {who : Nat} {k : KD} {code : List I5} {s : I5} (h : MQ0 w B vc vk vm vt LC LK S d) (ha : At8 d who k code s) :
  ∃ p gc cc gk ck gs cs gr cr gv cv gO cO st ct,Op8 w B vc vk vm vt LK d who p k code s gc cc gk ck gs cs gr cr gv cv gO cO st ct:=by
 have hp0:=ha.pc0
 have hpl:=ha.pcl
 have hn1:=ha.n1
 obtain ⟨p,hp⟩:∃ p:Nat,k.pc=p:=⟨k.pc.toNat,by omega⟩
 have wcl:who < d.codes.length:=(List.getElem?_eq_some_iff.1 ha.hc).1
 have wkl:who < d.cores.length:=(List.getElem?_eq_some_iff.1 ha.hk).1
 have lc:LC.length=d.codes.length:=by rw [← h.ec,List.length_map]
 have lk:LK.length=d.cores.length:=by rw [← h.ek,List.length_map]
 obtain ⟨x,hx⟩:∃ x,LK[who]? =some x:=⟨_,List.getElem?_eq_getElem (by omega)⟩
 have ex:x.d=k:=by
  have q:=ha.hk
  rw [← h.ek,List.getElem?_map,hx] at q
  simpa using q
 obtain ⟨y,hy⟩:∃ y,LC[who]? =some y:=⟨_,List.getElem?_eq_getElem (by omega)⟩
 have ey:y.l=code:=by
  have q:=ha.hc
  rw [← h.ec,List.getElem?_map,hy] at q
  simpa using q
 have hrk:=h.k.row
 have hrc:=h.c.row
 rw [lc] at hrc
 obtain ⟨gc,cc,hvc,-⟩:=World.ownsRow.form hrc (by omega)
 obtain ⟨gk,ck,hvk,-⟩:=World.ownsRow.form hrk (by omega)
 subst hvc
 subst hvk
 have ho:=h.c.inn who y hy
 unfold OwnT5 at ho
 rw [ey] at ho
 obtain ⟨gs,cs,hvs,-⟩:=World.ownsRow.form ho (by omega)
 have ho':=ho
 rw [hvs] at ho'
 obtain ⟨hr1,hr2⟩:=h.k.inn who x hx
 rw [ex] at hr1 hr2
 have hr8:=ha.regs
 have hv24:k.vw.length=24:=by
  have q:=ha.vw
  rw [viewB_iff] at q
  have m:=(memB_at ha.mem (i:=0) (by omega)).1
  omega
 obtain ⟨gr,cr,hvr,-⟩:=World.ownsRow.form hr1 (by omega)
 obtain ⟨gv,cv,hvv,-⟩:=World.ownsRow.form hr2 (by omega)
 have hr1':=hr1
 have hr2':=hr2
 unfold OwnN at hr1' hr2'
 rw [hvr] at hr1'
 rw [hvv] at hr2'
 have m24:=(memB_at ha.mem (i:=0) (by omega)).1
 have hrm:=h.m.row
 rw [h.m.n] at hrm
 obtain ⟨gO,cO,hvO,-⟩:=World.ownsRow.form hrm (by omega)
 obtain ⟨st,ct,hvt⟩:=ownSl h.t
 obtain ⟨f0,f1,f2,f3⟩:=flatK_at LK who x hx
 rw [hvO] at hrm
 obtain ⟨e0,e1,e2,e3,e4⟩:=fl5_at code p s (by have q:=ha.hs;rw [hp,Int.toNat_natCast] at q;exact q)
 have q5:∀ j,j < 5→w.cell? ⟨gs,p * 5+j,none⟩=((fl5 code).map (Value.int .i64))[p * 5+j]? :=fun j hj=>World.ownsRow.cellAt ho' _ (by omega)
 rw [hr8] at hvr hr1'
 rw [hv24] at hvv hr2'
 refine ⟨p,gc,cc,gk,ck,gs,cs,gr,cr,gv,cv,gO,cO,st,ct,rfl,rfl,hvO,hvt,?_,hp,wcl,by omega,?_,?_,?_,?_,?_,?_,?_,?_,?_,?_,?_,fun j=>World.ownsRow.frozenAt hrk j,fun j=>World.ownsRow.frozenAt hr1' j,(World.ownsRow.lt hrc gc rfl).2,(World.ownsRow.lt hrk gk rfl).2,(World.ownsRow.lt ho' gs rfl).2,(World.ownsRow.lt hr1' gr rfl).2,(World.ownsRow.lt hr2' gv rfl).2,(World.ownsRow.lt hrm gO rfl).2,(World.ownsRow.lt hrk gk rfl).1,(World.ownsRow.lt hr1' gr rfl).1,(World.ownsRow.lt hr2' gv rfl).1,(World.ownsRow.lt hrm gO rfl).1⟩
 ·rw [hx,← ex,← hvr,← hvv]
 ·rw [World.ownsRow.cellAt hrc _ (by omega),List.getElem?_map,hy,← hvs];rfl
 ·rw [World.ownsRow.cellAt hrk _ (by omega),f0,ex]
 ·rw [World.ownsRow.cellAt hrk _ (by omega),f1,hvr]
 ·rw [World.ownsRow.cellAt hrk _ (by omega),f2,hvv]
 ·rw [World.ownsRow.cellAt hrk _ (by omega),f3,ex]
 ·have q:=q5 0 (by omega)
  rw [Nat.add_zero,List.getElem?_map,e0] at q
  exact q
 ·rw [q5 1 (by omega),List.getElem?_map,e1];rfl
 ·rw [q5 2 (by omega),List.getElem?_map,e2];rfl
 ·rw [q5 3 (by omega),List.getElem?_map,e3];rfl
 ·rw [q5 4 (by omega),List.getElem?_map,e4];rfl
 ·intro i hi
  rw [hvr,← hr8] at hr1
  exact OwnN.cell hr1 (by omega)
/- the boxes of a step: machine, pick, answer, core, step -/
structure Bx5 (V:World) (z:Nat) (m0 m1 m2 m3 x0 x1 k0 k1 k2 k3 s0 s1 s2 s3 s4:Value):Prop where
 m0:V.cell? ⟨z,0,none⟩=some m0
 m1:V.cell? ⟨z,1,none⟩=some m1
 m2:V.cell? ⟨z,2,none⟩=some m2
 m3:V.cell? ⟨z,3,none⟩=some m3
 x0:V.cell? ⟨z+1,0,none⟩=some x0
 x1:V.cell? ⟨z+1,1,none⟩=some x1
 a0:V.cell? ⟨z+1+1,0,none⟩=some (.slice none 0 0)
 a1:V.cell? ⟨z+1+1,1,none⟩=some (.slice none 0 0)
 a2:V.cell? ⟨z+1+1,2,none⟩=some (.slice none 0 0)
 a3:V.cell? ⟨z+1+1,3,none⟩=some (.slice none 0 0)
 k0:V.cell? ⟨z+1+1+1,0,none⟩=some k0
 k1:V.cell? ⟨z+1+1+1,1,none⟩=some k1
 k2:V.cell? ⟨z+1+1+1,2,none⟩=some k2
 k3:V.cell? ⟨z+1+1+1,3,none⟩=some k3
 s0:V.cell? ⟨z+1+1+1+1,0,none⟩=some s0
 s1:V.cell? ⟨z+1+1+1+1,1,none⟩=some s1
 s2:V.cell? ⟨z+1+1+1+1,2,none⟩=some s2
 s3:V.cell? ⟨z+1+1+1+1,3,none⟩=some s3
 s4:V.cell? ⟨z+1+1+1+1,4,none⟩=some s4
 fm:∀ j,V.frozen? ⟨z,j,none⟩=false
 fa:∀ j,V.frozen? ⟨z+1+1,j,none⟩=false
 z:z+1+1+1+1 < V.heap.size
theorem Bx5.keep {V V':World} {z:Nat} {m0 m1 m2 m3 x0 x1 k0 k1 k2 k3 s0 s1 s2 s3 s4:Value} (h:Bx5 V z m0 m1 m2 m3 x0 x1 k0 k1 k2 k3 s0 s1 s2 s3 s4) (hb:∀ b,z≤b→b < V.heap.size→V'.heap[b]? =V.heap[b]?) (hs:V.heap.size≤V'.heap.size):Bx5 V' z m0 m1 m2 m3 x0 x1 k0 k1 k2 k3 s0 s1 s2 s3 s4:=by
 have hz:=h.z
 have c0:∀ j,V'.cell? ⟨z,j,none⟩=V.cell? ⟨z,j,none⟩:=fun j=>World.cell?_of_block (hb z (by omega) (by omega))
 have c1:∀ j,V'.cell? ⟨z+1,j,none⟩=V.cell? ⟨z+1,j,none⟩:=fun j=>World.cell?_of_block (hb (z+1) (by omega) (by omega))
 have c2:∀ j,V'.cell? ⟨z+1+1,j,none⟩=V.cell? ⟨z+1+1,j,none⟩:=fun j=>World.cell?_of_block (hb (z+1+1) (by omega) (by omega))
 have c3:∀ j,V'.cell? ⟨z+1+1+1,j,none⟩=V.cell? ⟨z+1+1+1,j,none⟩:=fun j=>World.cell?_of_block (hb (z+1+1+1) (by omega) (by omega))
 have c4:∀ j,V'.cell? ⟨z+1+1+1+1,j,none⟩=V.cell? ⟨z+1+1+1+1,j,none⟩:=fun j=>World.cell?_of_block (hb (z+1+1+1+1) (by omega) (by omega))
 exact ⟨(c0 _).trans h.m0,(c0 _).trans h.m1,(c0 _).trans h.m2,(c0 _).trans h.m3,(c1 _).trans h.x0,(c1 _).trans h.x1,(c2 _).trans h.a0,(c2 _).trans h.a1,(c2 _).trans h.a2,(c2 _).trans h.a3,(c3 _).trans h.k0,(c3 _).trans h.k1,(c3 _).trans h.k2,(c3 _).trans h.k3,(c4 _).trans h.s0,(c4 _).trans h.s1,(c4 _).trans h.s2,(c4 _).trans h.s3,(c4 _).trans h.s4,fun j=>(World.frozen?_of_block (hb z (by omega) (by omega))).trans (h.fm j),fun j=>(World.frozen?_of_block (hb (z+1+1) (by omega) (by omega))).trans (h.fa j),by omega⟩
theorem boxes5 {w W V : World} {m0 m1 m2 m3 x0 x1 k0 k1 k2 k3 s0 s1 s2 s3 s4 : Value} {T0 T1 T2 T3 T4 : TypeId}
  (hW:(((w.alloc (.cells #[m0,m1,m2,m3] T0)).alloc (.cells #[x0,x1] T1)).alloc (.cells #[.slice none 0 0,.slice none 0 0,.slice none 0 0,.slice none 0 0] T2)).alloc (.cells #[k0,k1,k2,k3] T3)=W) (hV:(W.alloc (.cells #[s0,s1,s2,s3,s4] T4)).drew=V):
  Bx5 V w.heap.size m0 m1 m2 m3 x0 x1 k0 k1 k2 k3 s0 s1 s2 s3 s4∧Below w.heap.size w V:=by
 have zW:W.heap.size=w.heap.size+1+1+1+1:=by subst hW;simp
 have kW:Below w.heap.size w W:=by
  subst hW
  exact ((((Below.refl _ _).alloc (Nat.le_refl _) _).alloc (by simp) _).alloc (by simp;omega) _).alloc (by simp;omega) _
 have kV:Below W.heap.size W V:=by subst hV;exact Below.drew ((Below.refl _ _).alloc (Nat.le_refl _) _)
 have cV:∀ b j,b < W.heap.size→V.cell? ⟨b,j,none⟩=W.cell? ⟨b,j,none⟩:=fun b j hb=>kV.cell (p:=⟨b,j,none⟩) hb
 have fV:∀ b j,b < W.heap.size→V.frozen? ⟨b,j,none⟩=W.frozen? ⟨b,j,none⟩:=fun b j hb=>kV.frozen (p:=⟨b,j,none⟩) hb
 refine ⟨⟨?_,?_,?_,?_,?_,?_,?_,?_,?_,?_,?_,?_,?_,?_,?_,?_,?_,?_,?_,fun j=>?_,fun j=>?_,?_⟩,kW.trans (kV.mono (by omega))⟩
 any_goals (refine (cV _ _ (by omega)).trans ?_;subst hW;simp [go_sem];done)
 any_goals (refine (fV _ _ (by omega)).trans ?_;subst hW;simp [go_sem];done)
 any_goals (rw [← zW];subst hV;show (W.alloc _).cell? _=_;simp [go_sem];done)
 rw [← zW]
 subst hV
 show W.heap.size < (W.alloc _).heap.size
 simp
end
section
set_option linter.unusedSimpArgs false
set_option linter.unusedVariables false
set_option maxRecDepth 100000
open Go.RowKit
theorem hidS {p:Prop} (h:p):Hid p:=h
def StepQ (w:World) (B:Nat) (Hq:Nat→Prop) (x:MD×Int) (e:Ending) (w':World):Prop:=∃ vc vk vm vt LC LK S,e=.returned (.tuple #[.agg #[vc,vk,vm,vt],.int .i64 x.2])∧MQ w' B Hq vc vk vm vt LC LK S x.1∧Below B w w'
theorem heap_pair {w V:World} {b g j:Nat} {u:Value} (h:V.heap[b]? =w.heap[b]?):(V.setCell ⟨g,j,none⟩ u).heap[b]? =(w.setCell ⟨g,j,none⟩ u).heap[b]? :=by
 simp only [World.setCell,Array.getElem?_modify,h]
theorem putK_putK (d:MD) (who:Nat) (a b:KD):putK (putK d who a) who b=putK d who b:=by
 unfold putK
 simp only [List.set_set]
theorem goM_put (d:MD) (who:Nat) (a k:KD) (n:Nat) (p:Int):goM (putK d who a) who k n p=goM d who k n p:=by
 unfold goM
 rw [putK_putK,putK_putK]
theorem MQ.reg {Hq : Nat → Prop} {w : World} {B gr cr who : Nat} {vc vk vm vt v : Value} {LC : List CV} {LK : List KV} {S : List RS} {d : MD} {k : KD} (h : MQ w B Hq vc vk vm vt LC LK S d) (hx : LK[who]? = some ⟨k, .slice (some ⟨gr, 0, none⟩) 8 cr, v⟩) (h8 : k.regs.length = 8) (j : Nat) (z : Int) :
  MQ (w.setCell ⟨gr,j,none⟩ (.int .i64 z)) B Hq vc vk vm vt LC (LK.set who ⟨{ k with regs:=k.regs.set j z },.slice (some ⟨gr,0,none⟩) 8 cr,v⟩) S (putK d who { k with regs:=k.regs.set j z }):=
 MQ.setR h hx (by show _=_;rw [h8]) z
theorem MQ.go {Hq : Nat → Prop} {w F : World} {B gk ck N who n : Nat} {vc vm vt r v : Value} {LC : List CV} {LK : List KV} {S : List RS} {d : MD} {k : KD} (h : MQ w B Hq vc (.slice (some ⟨gk, 0, none⟩) N ck) vm vt LC LK S d) (hN : LK.length = N) (hx : LK[who]? = some ⟨k, r, v⟩) (p : Int) (hp : p < (n : Int)) (hF : ∀ b, b < w.heap.size → F.heap[b]? = (w.setCell ⟨gk, who * 4, none⟩ (.int .i64 p)).heap[b]?) (hs : w.heap.size ≤ F.heap.size) :
  ∃ LK',MQ F B Hq vc (.slice (some ⟨gk,0,none⟩) N ck) vm vt LC LK' S (goM d who k n p):=by
 subst hN
 unfold goM
 rw [if_pos hp]
 exact ⟨_,(MQ.setK h hx p).1.keep (fun b _ hb=>hF b (by simpa using hb)) (by simpa using hs)⟩
theorem MQ.st {Hq : Nat → Prop} {w F : World} {B gk ck N who : Nat} {vc vm vt r v : Value} {LC : List CV} {LK : List KV} {S : List RS} {d : MD} {k : KD} (h : MQ w B Hq vc (.slice (some ⟨gk, 0, none⟩) N ck) vm vt LC LK S d) (hN : LK.length = N) (hx : LK[who]? = some ⟨k, r, v⟩) (z : Int) (hF : ∀ b, b < w.heap.size → F.heap[b]? = (w.setCell ⟨gk, who * 4 + 3, none⟩ (.int .i64 z)).heap[b]?) (hs : w.heap.size ≤ F.heap.size) :
  ∃ LK',MQ F B Hq vc (.slice (some ⟨gk,0,none⟩) N ck) vm vt LC LK' S (putK d who { k with st:=z }):=by
 subst hN
 exact ⟨_,(MQ.setK h hx z).2.keep (fun b _ hb=>hF b (by simpa using hb)) (by simpa using hs)⟩
theorem MQ.no {Hq : Nat → Prop} {w F : World} {B gk ck N who n : Nat} {vc vm vt r v : Value} {LC : List CV} {LK : List KV} {S : List RS} {d : MD} {k : KD} (h : MQ w B Hq vc (.slice (some ⟨gk, 0, none⟩) N ck) vm vt LC LK S d) (hN : LK.length = N) (hx : LK[who]? = some ⟨k, r, v⟩) (p : Int) (hp : ¬ p < (n : Int)) (hF : ∀ b, b < w.heap.size → F.heap[b]? = (w.setCell ⟨gk, who * 4 + 3, none⟩ (.int .i64 2)).heap[b]?) (hs : w.heap.size ≤ F.heap.size) :
  ∃ LK',MQ F B Hq vc (.slice (some ⟨gk,0,none⟩) N ck) vm vt LC LK' S (goM d who k n p):=by
 unfold goM
 rw [if_neg hp]
 exact h.st hN hx 2 hF hs
theorem set_at {L:List KV} {i:Nat} {x y:KV} (h:L[i]? =some x):(L.set i y)[i]? =some y:=by
 have:=(List.getElem?_eq_some_iff.1 h).1
 rw [List.getElem?_set_self this]
theorem Op8.ne {Hq : Nat → Prop} {w : World} {B : Nat} {vc vk vm vt : Value} {LC : List CV} {LK : List KV} {S : List RS} {d : MD} {who p : Nat} {k : KD} {code : List I5} {s : I5} {gc cc gk ck gs cs gr cr gv cv gO cO : Nat} {st : Option Addr} {ct : Nat} (h : MQ w B Hq vc vk vm vt LC LK S d) (o : Op8 w B vc vk vm vt LK d who p k code s gc cc gk ck gs cs gr cr gv cv gO cO st ct) :
  gr≠gc∧gr≠gk∧gr≠gO∧gr≠gv∧gk≠gc∧gk≠gO∧gc≠gO∧gv≠gk∧gv≠gc∧gv≠gO:=by
 have hr:=(h.k.inn who _ o.hx).1
 have hv:=(h.k.inn who _ o.hx).2
 have hk:=h.k.row
 have hc:=h.c.row
 have hm:=h.m.row
 have e1:(Value.slice (some ⟨gr,0,none⟩) 8 cr).ownBlock=some gr:=rfl
 have e2:(Value.slice (some ⟨gv,0,none⟩) 24 cv).ownBlock=some gv:=rfl
 have e3:vk.ownBlock=some gk:=by rw [o.ek];rfl
 have e4:vc.ownBlock=some gc:=by rw [o.ec];rfl
 have e5:vm.ownBlock=some gO:=by rw [o.em];rfl
 refine ⟨fun e=>?_,fun e=>?_,fun e=>?_,fun e=>?_,fun e=>?_,fun e=>?_,fun e=>?_,fun e=>?_,fun e=>?_,fun e=>?_⟩
 ·exact ownType' hr hc (by decide) e1 (e▸e4)
 ·exact ownType' hr hk (by decide) e1 (e▸e3)
 ·exact ownType' hr hm (by decide) e1 (e▸e5)
 ·exact h.k.two who _ gr o.hx e1 (e▸e2)
 ·exact ownType' hk hc (by decide) e3 (e▸e4)
 ·exact ownType' hk hm (by decide) e3 (e▸e5)
 ·exact ownType' hc hm (by decide) e4 (e▸e5)
 ·exact ownType' hv hk (by decide) e2 (e▸e3)
 ·exact ownType' hv hc (by decide) e2 (e▸e4)
 ·exact ownType' hv hm (by decide) e2 (e▸e5)
def bitN (b:Bool):Int:=if b=true then 1 else 0
theorem l4Bit_any (b:Bool) (w:World):Calls Tryz.prog 89 #[.bool b] w fun e w'=>e=.returned (.int .i64 (bitN b))∧w'=w:=by
 cases b
 all_goals
  go_enter Tryz.func89,Tryz.ntmps89
  go_wp2
  go_ret
  exact ⟨rfl,rfl⟩
theorem stepAt1 (d:MD) (who:Nat) (late:Int) (k:KD) (n:Nat) (s:I5) (h:s.o=1):stepAt d who late k n s=(goM d who (setR k s.r s.n) n (k.pc+1),0):=by
 unfold stepAt
 rw [if_pos h]
theorem stepAt2 (d:MD) (who:Nat) (late:Int) (k:KD) (n:Nat) (s:I5) (h:s.o=2):stepAt d who late k n s=(goM d who (setR k s.r (wI (regA k s.a+regA k s.b))) n (k.pc+1),0):=by
 unfold stepAt
 rw [if_neg (by rw [h];decide)]
 rw [if_pos h]
theorem stepAt3 (d:MD) (who:Nat) (late:Int) (k:KD) (n:Nat) (s:I5) (h:s.o=3):stepAt d who late k n s=(goM d who (setR k s.r (wI (regA k s.a - regA k s.b))) n (k.pc+1),0):=by
 unfold stepAt
 rw [if_neg (by rw [h];decide)]
 rw [if_neg (by rw [h];decide)]
 rw [if_pos h]
theorem stepAt4 (d:MD) (who:Nat) (late:Int) (k:KD) (n:Nat) (s:I5) (h:s.o=4):stepAt d who late k n s=(goM d who (setR k s.r (if regA k s.a < regA k s.b then 1 else 0)) n (k.pc+1),0):=by
 unfold stepAt
 rw [if_neg (by rw [h];decide)]
 rw [if_neg (by rw [h];decide)]
 rw [if_neg (by rw [h];decide)]
 rw [if_pos h]
theorem stepAt9 (d:MD) (who:Nat) (late:Int) (k:KD) (n:Nat) (s:I5) (h:s.o=9):stepAt d who late k n s=(if d.tr.length=4000 then (d,3) else (goM { d with tr:=d.tr++[⟨who,regA k s.a⟩] } who k n (k.pc+1),0)):=by
 unfold stepAt
 rw [if_neg (by rw [h];decide)]
 rw [if_neg (by rw [h];decide)]
 rw [if_neg (by rw [h];decide)]
 rw [if_neg (by rw [h];decide)]
 rw [if_pos h]
theorem stepAt10 (d:MD) (who:Nat) (late:Int) (k:KD) (n:Nat) (s:I5) (h:s.o=10):stepAt d who late k n s=(goM d who k n s.n,0):=by
 unfold stepAt
 rw [if_neg (by rw [h];decide)]
 rw [if_neg (by rw [h];decide)]
 rw [if_neg (by rw [h];decide)]
 rw [if_neg (by rw [h];decide)]
 rw [if_neg (by rw [h];decide)]
 rw [if_pos h]
theorem stepAt11 (d:MD) (who:Nat) (late:Int) (k:KD) (n:Nat) (s:I5) (h:s.o=11):stepAt d who late k n s=(goM d who k n (if regA k s.a=0 then s.n else k.pc+1),0):=by
 unfold stepAt
 rw [if_neg (by rw [h];decide)]
 rw [if_neg (by rw [h];decide)]
 rw [if_neg (by rw [h];decide)]
 rw [if_neg (by rw [h];decide)]
 rw [if_neg (by rw [h];decide)]
 rw [if_neg (by rw [h];decide)]
 rw [if_pos h]
theorem stepAt12 (d:MD) (who:Nat) (late:Int) (k:KD) (n:Nat) (s:I5) (h:s.o=12):stepAt d who late k n s=(putK d who { k with st:=1 },0):=by
 unfold stepAt
 rw [if_neg (by rw [h];decide)]
 rw [if_neg (by rw [h];decide)]
 rw [if_neg (by rw [h];decide)]
 rw [if_neg (by rw [h];decide)]
 rw [if_neg (by rw [h];decide)]
 rw [if_neg (by rw [h];decide)]
 rw [if_neg (by rw [h];decide)]
 rw [if_pos h]
theorem stepAt13 (d:MD) (who:Nat) (late:Int) (k:KD) (n:Nat) (s:I5) (h:s.o=13):stepAt d who late k n s=(putK d who { k with st:=2 },0):=by
 unfold stepAt
 rw [if_neg (by rw [h];decide)]
 rw [if_neg (by rw [h];decide)]
 rw [if_neg (by rw [h];decide)]
 rw [if_neg (by rw [h];decide)]
 rw [if_neg (by rw [h];decide)]
 rw [if_neg (by rw [h];decide)]
 rw [if_neg (by rw [h];decide)]
 rw [if_neg (by rw [h];decide)]
 rw [if_pos h]
theorem stepAtM (d:MD) (who:Nat) (late:Int) (k:KD) (n:Nat) (s:I5) (h:5≤s.o∧s.o≤8):stepAt d who late k n s=(if 0≤cellM k s∧cellM k s≤23 then (if s.o≠5∧(d.mem.getD (cellM k s).toNat []).length=4000 then (d,3) else (goM (memS d late k s (cellM k s).toNat).1 who (memS d late k s (cellM k s).toNat).2 n (k.pc+1),0)) else (putK d who { k with st:=2 },0)):=by
 unfold stepAt
 rw [if_neg (by omega)]
 rw [if_neg (by omega)]
 rw [if_neg (by omega)]
 rw [if_neg (by omega)]
 rw [if_neg (by omega)]
 rw [if_neg (by omega)]
 rw [if_neg (by omega)]
 rw [if_neg (by omega)]
 rw [if_neg (by omega)]
theorem wp_note {o : Oper} {a : Act} {w : World} {K : Act → World → Prop} {Q : Exit → Act → World → Prop} (s x : Operand) (ho : o.op = .call { callee := .builtin .append, args := #[s, x], argTypes := #[36, 36] })
  (base:Nat) (v:Value) (n:Nat) (xs:List Value) (hs:a.eval s=v) (hown:w.ownsRow base 105 2 v n xs) (g0:Nat) (u0 u1:Value) (hu0:u0.oneCell'=true) (hu1:u1.oneCell'=true) (hx:a.eval x=.slice (some ⟨g0,0,none⟩) 1 1) (hc0:w.cell? ⟨g0,0,none⟩=some u0) (hc1:w.cell? ⟨g0,1,none⟩=some u1) (hn:n≤1073741824) (hbase:base≤w.heap.size)
  (h:∀ g cap w',w'.ownsRow base 105 2 (.slice (some ⟨g,0,none⟩) (n+1) cap) (n+1) (xs++[u0,u1])→w.grownBy w' v.ownBlock→(v.ownBlock=some g∨w.heap.size≤g)→g < w'.heap.size→K (a.put o.dst (.slice (some ⟨g,0,none⟩) (n+1) cap)) w'):Oper.wp Tryz.prog o a w K Q:=by
 obtain ⟨i0,hi,hz0,hz1,hz2⟩:=infoD
 refine wp_append_lies w s x 36 ho base 105 i0 _ 2 16 Tryz.underlying36 hi hz0 hz1 hz2 rfl (by decide) v n xs hs hown ⟨g0,0,none⟩ 1 1 [u0,u1] hx rfl (fun j u' hj=>?_) (fun u' hu'=>by simp at hu';rcases hu' with rfl | rfl<;>assumption) (by decide) (by unfold maxLen;omega) (by omega) hbase _ rfl ?_
 ·match j,hj with
  | 0,hj=>simp at hj;subst hj;simpa [Addr.add] using hc0
  | 1,hj=>simp at hj;subst hj;simpa [Addr.add] using hc1
  | j+2,hj=>simp at hj
 ·intro g cap w' q1 q2 q3 q4
  exact h g cap w' q1 q2 (by rcases q3 with q3 | q3<;>first | exact .inl q3 | exact .inr (by omega)) q4
/- a note more: the rest of the machine stays -/
theorem MQ0.note {w w':World} {B g cap:Nat} {vc vk vm vt:Value} {LC:List CV} {LK:List KV} {S:List RS} {d:MD} (nt:ND) (h:MQ0 w B vc vk vm vt LC LK S d) (ho:w'.ownsRow B 105 2 (.slice (some ⟨g,0,none⟩) (d.tr.length+1) cap) (d.tr.length+1) (flatN d.tr++[.int .i64 nt.who,.int .i64 nt.v])) (hb:∀ b,b < w.heap.size→vt.ownBlock≠some b→w'.heap[b]? =w.heap[b]?) (hs:w.heap.size≤w'.heap.size):MQ0 w' B vc vk vm (.slice (some ⟨g,0,none⟩) (d.tr.length+1) cap) LC LK S { d with tr:=d.tr++[nt] }:=by
 have ne:∀ {e:TypeId} {size n:Nat} {u:Value} {xs:List Value},w.ownsRow B e size u n xs→e≠105→∀ q,u.ownBlock=some q→w'.heap[q]? =w.heap[q]? :=fun hu h1 q hq=>hb q (World.ownsRow.lt hu _ hq).2 (ownType' hu h.t h1 hq)
 refine ⟨⟨ownKeep' h.c.row (ne h.c.row (by decide)),fun i x hx=>ownKeep' (h.c.inn i x hx) (ne (h.c.inn i x hx) (by decide)),h.c.sep⟩,h.ec,⟨ownKeep' h.k.row (ne h.k.row (by decide)),fun i x hx=>⟨ownKeep' (h.k.inn i x hx).1 (ne (h.k.inn i x hx).1 (by decide)),ownKeep' (h.k.inn i x hx).2 (ne (h.k.inn i x hx).2 (by decide))⟩,h.k.two,h.k.sep⟩,h.ek,?_,?_,h.sk⟩
 ·refine ⟨h.m.n,ownKeep' h.m.row (ne h.m.row (by decide)),fun i' r l hr hl=>?_,h.m.d⟩
  have q:=h.m.r i' r l hr hl
  refine q.kept (ne q.own (by decide)) (fun a ha=>?_) hs
  obtain ⟨cs,f,c1⟩:=q.vt a ha
  refine hb a.block (q.blk ha).2 (fun e=>?_)
  obtain ⟨cs',f',c2⟩:=own_ty h.t e
  rw [c2] at c1
  injection c1 with c1
  injection c1 with _ c1
  exact absurd c1 (by decide)
 ·show OwnD w' B _ (d.tr++[nt])
  unfold OwnD
  rw [flatN_app,List.length_append]
  exact ho
theorem MQ.note {Hq:Nat→Prop} {w w':World} {B g cap:Nat} {vc vk vm vt:Value} {LC:List CV} {LK:List KV} {S:List RS} {d:MD} (nt:ND) (h:MQ w B Hq vc vk vm vt LC LK S d) (ho:w'.ownsRow B 105 2 (.slice (some ⟨g,0,none⟩) (d.tr.length+1) cap) (d.tr.length+1) (flatN d.tr++[.int .i64 nt.who,.int .i64 nt.v])) (hb:∀ b,b < w.heap.size→vt.ownBlock≠some b→w'.heap[b]? =w.heap[b]?) (hs:w.heap.size≤w'.heap.size) (hg:vt.ownBlock=some g∨w.heap.size≤g):MQ w' B Hq vc vk vm (.slice (some ⟨g,0,none⟩) (d.tr.length+1) cap) LC LK S { d with tr:=d.tr++[nt] }:=⟨h.toMQ0.note nt ho hb hs,⟨h.hh.c,h.hh.ci,h.hh.k,h.hh.ki,h.hh.m,h.hh.mi,fun q hq=>by injection hq with hq;subst hq;exact hg.elim (fun e=>h.hh.t _ e) (fun e=>h.hn _ e)⟩,fun q hq=>h.hn q (Nat.le_trans hs hq)⟩
theorem app_note {ops : Array Oper} {rest : List Oper} {o : Oper} {a : Act} {Q : Exit → Act → World → Prop} (hgd : o.guard = none) (s x : Operand) (ho : o.op = .call { callee := .builtin .append, args := #[s, x], argTypes := #[36, 36] })
  (w:World) (base:Nat) (v:Value) (n:Nat) (xs:List Value) (hs:a.eval s=v) (hown:w.ownsRow base 105 2 v n xs) (g0:Nat) (u0 u1:Value) (hu0:u0.oneCell'=true) (hu1:u1.oneCell'=true) (hx:a.eval x=.slice (some ⟨g0,0,none⟩) 1 1) (hc0:w.cell? ⟨g0,0,none⟩=some u0) (hc1:w.cell? ⟨g0,1,none⟩=some u1) (hn:n≤1073741824) (hbase:base≤w.heap.size)
  (h:∀ g cap w',w'.ownsRow base 105 2 (.slice (some ⟨g,0,none⟩) (n+1) cap) (n+1) (xs++[u0,u1])→w.grownBy w' v.ownBlock→(v.ownBlock=some g∨w.heap.size≤g)→g < w'.heap.size→wpList Tryz.prog ops Q rest (a.put o.dst (.slice (some ⟨g,0,none⟩) (n+1) cap)) w'):wpList Tryz.prog ops Q (o::rest) a w:=
 wpList_plain hgd fun _ hK=>wp_note s x ho base v n xs hs hown g0 u0 u1 hu0 hu1 hx hc0 hc1 hn hbase fun g cap w' h1 h2 h3 h4=>hK _ _ (h g cap w' h1 h2 h3 h4)
/- a store into a box of a machine's type -/
theorem MQ0.offB {w:World} {B b j:Nat} {vc vk vm vt u:Value} {LC:List CV} {LK:List KV} {S:List RS} {d:MD} (h:MQ0 w B vc vk vm vt LC LK S d) (ht:BxT w b):MQ0 (w.setCell ⟨b,j,none⟩ u) B vc vk vm vt LC LK S d:=by
 have hb:∀ k,k≠b→(w.setCell ⟨b,j,none⟩ u).heap[k]? =w.heap[k]? :=fun k hk=>Below.heap_setCell _ _ _ k hk
 exact ⟨h.c.off ht hb,h.ec,h.k.off ht hb,h.ek,h.m.off ht hb (by simp),h.t.off ht hb,h.sk⟩
theorem MQ.offB {Hq:Nat→Prop} {w:World} {B b j:Nat} {vc vk vm vt u:Value} {LC:List CV} {LK:List KV} {S:List RS} {d:MD} (h:MQ w B Hq vc vk vm vt LC LK S d) (ht:BxT w b):MQ (w.setCell ⟨b,j,none⟩ u) B Hq vc vk vm vt LC LK S d:=⟨h.toMQ0.offB ht,h.hh,by simpa using h.hn⟩
theorem BxT.same {w w':World} {b:Nat} (h:BxT w b) (e:w'.heap[b]? =w.heap[b]?):BxT w' b:=by
 obtain ⟨cs,f,c⟩:=h
 exact ⟨cs,f,e.trans c⟩
theorem BxT.lt {w:World} {b:Nat} (h:BxT w b):b < w.heap.size:=by
 obtain ⟨cs,f,c⟩:=h
 exact (Array.getElem?_eq_some_iff.1 c).1
theorem BxT.alloc {w:World} {b:Nat} (h:BxT w b) (o:Obj):BxT (w.alloc o) b:=h.same (Below.heap_alloc _ _ _ h.lt)
theorem BxT.new (w:World) (cs:Array Value):BxT (w.alloc (.cells cs 38)) w.heap.size:=⟨_,_,heap_alloc_new _ _⟩
theorem boxT {w W V : World} {m0 m1 m2 m3 x0 x1 k0 k1 k2 k3 s0 s1 s2 s3 s4 : Value} {T1 T3 T4 : TypeId}
  (hW:(((w.alloc (.cells #[m0,m1,m2,m3] 38)).alloc (.cells #[x0,x1] T1)).alloc (.cells #[.slice none 0 0,.slice none 0 0,.slice none 0 0,.slice none 0 0] 38)).alloc (.cells #[k0,k1,k2,k3] T3)=W) (hV:(W.alloc (.cells #[s0,s1,s2,s3,s4] T4)).drew=V):
  BxT V w.heap.size∧BxT V (w.heap.size+1+1):=by
 subst hW
 subst hV
 have e:((w.alloc (.cells #[m0,m1,m2,m3] 38)).alloc (.cells #[x0,x1] T1)).heap.size=w.heap.size+1+1:=by simp
 refine ⟨?_,?_⟩
 ·exact BxT.same (BxT.alloc (BxT.alloc (BxT.alloc (BxT.alloc (BxT.new w _) _) _) _) _) rfl
 ·rw [← e]
  exact BxT.same (BxT.alloc (BxT.alloc (BxT.new _ _) _) _) rfl
end
end Go.Proofs.YtlbeploopclegaaGreat
