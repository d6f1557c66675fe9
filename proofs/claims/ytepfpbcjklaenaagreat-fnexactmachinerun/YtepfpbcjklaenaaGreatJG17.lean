/- A machine whose core's view was written where it lies, its memory stored into. No condition. Store's last step in the specification: l6Store. Conditions: what is right. What a step of memory of the specification stands on. No condition. A runner of the program writes into memory. No condition. -/
import Derived.Test.YtepfpbcjklaenaaGreatJG00
import Derived.Test.YtepfpbcjklaenaaGreatJG01
import Derived.Test.YtepfpbcjklaenaaGreatJG10
import Derived.Test.YtepfpbcjklaenaaGreatJG02
import Derived.Test.YtepfpbcjklaenaaGreatJG14
import Derived.Test.YtepfpbcjklaenaaGreatJG13
import Derived.Test.YtepfpbcjklaenaaGreatJG04
import Derived.Test.YtepfpbcjklaenaaGreatJG16
import Derived.Test.YtepfpbcjklaenaaGreatJG12
import Derived.Test.YtepfpbcjklaenaaGreatJG08
import Derived.Test.YtepfpbcjklaenaaGreatJG11
import Derived.Test.YtepfpbcjklaenaaGreatJG15
import Derived.Test.YtepfpbcjklaenaaGreatJG09
import Derived.Test.YtepfpbcjklaenaaGreatJKIm1
namespace Go.Proofs.YtepfpbcjklaenaaGreat
section
set_option linter.unusedSimpArgs false
set_option linter.unusedVariables false
set_option maxRecDepth 100000
open Go.RowKit
theorem MQ0.view {w w' : World} {B g : Nat} {vc vk vm vt : Value} {LC : List CV} {LK : List KV} {S S' : List RS} {d : MD} {i : Nat} {x : KV} {l' : List Int} {m' : List (List WD)} (h : MQ0 w B vc vk vm vt LC LK S d) (hx : LK[i]? = some x) (hg : x.v.ownBlock = some g) (ho : OwnN w' B x.v l') (hm : OW w' B vm S' m')
  (hf:∀ {e:TypeId} {size n:Nat} {u:Value} {xs:List Value},w.ownsRow B e size u n xs→e≠127→e≠125→u.ownBlock≠some g→∀ q,u.ownBlock=some q→w'.heap[q]? =w.heap[q]?)
  (hp:∀ a∈mAs S',(∃ a'∈mAs S,a'.block=a.block)∨w.heap.size≤a.block):
  MQ0 w' B vc vk vm vt LC (LK.set i ⟨{ x.d with vw:=l' },x.r,x.v⟩) S' { putK d i { x.d with vw:=l' } with mem:=m' }:=by
 have hv:=(h.k.inn i x hx).2
 have ng:∀ {e:TypeId} {size n:Nat} {u:Value} {xs:List Value},w.ownsRow B e size u n xs→e≠3→u.ownBlock≠some g:=fun hu he e=>ownType' hu hv he e hg
 have kc:∀ {e:TypeId} {size n:Nat} {u:Value} {xs:List Value},w.ownsRow B e size u n xs→e≠3→e≠127→e≠125→w'.ownsRow B e size u n xs:=fun hu h0 h1 h2=>ownKeep' hu (hf hu h1 h2 (ng hu h0))
 have ki:∀ {u:Value} {l:List Int},OwnN w B u l→u.ownBlock≠some g→OwnN w' B u l:=fun hu hn=>ownKeep' hu (hf hu (by decide) (by decide) hn)
 refine ⟨⟨kc h.c.row (by decide) (by decide) (by decide),fun j y hy=>kc (h.c.inn j y hy) (by decide) (by decide) (by decide),h.c.sep⟩,h.ec,?_,?_,hm,kc h.t (by decide) (by decide) (by decide),fun j z q hz hq a ha e=>?_⟩
 ·refine h.k.turn hx rfl rfl ?_ ⟨ki (h.k.inn i x hx).1 (fun e=>h.k.two i x g hx e hg),ho⟩ (fun j z hj hz=>?_)
  ·have r:=kc h.k.row (by decide) (by decide) (by decide)
   rw [flatK_same LK i x ⟨{ x.d with vw:=l' },x.r,x.v⟩ hx rfl rfl rfl rfl]
   exact r
  ·have q:=h.k.sep i j x z g hx hz (Ne.symm hj) (.inr hg)
   exact ⟨ki (h.k.inn j z hz).1 (fun e=>q (.inl e)),ki (h.k.inn j z hz).2 (fun e=>q (.inr e))⟩
 ·show (LK.set i _).map KV.d=d.cores.set i _
  rw [List.map_set,h.ek]
 ·rcases setKV_at hz with ⟨rfl,rfl,-⟩ | ⟨hj,hz⟩
  ·rcases hp a ha with ⟨a',ha',e'⟩ | hlt
   ·exact h.sk _ x q hx hq a' ha' (e'.trans e)
   ·rcases hq with hq | hq
    ·have:=(World.ownsRow.lt (h.k.inn _ x hx).1 _ hq).2;omega
    ·have:=(World.ownsRow.lt (h.k.inn _ x hx).2 _ hq).2;omega
  ·rcases hp a ha with ⟨a',ha',e'⟩ | hlt
   ·exact h.sk j z q hz hq a' ha' (e'.trans e)
   ·rcases hq with hq | hq
    ·have:=(World.ownsRow.lt (h.k.inn j z hz).1 _ hq).2;omega
    ·have:=(World.ownsRow.lt (h.k.inn j z hz).2 _ hq).2;omega
theorem MQ.view {Hq : Nat → Prop} {w w' : World} {B g : Nat} {vc vk vm vt : Value} {LC : List CV} {LK : List KV} {S S' : List RS} {d : MD} {i : Nat} {x : KV} {l' : List Int} {m' : List (List WD)} (h : MQ w B Hq vc vk vm vt LC LK S d) (hx : LK[i]? = some x) (hg : x.v.ownBlock = some g) (ho : OwnN w' B x.v l') (hm : OW w' B vm S' m')
  (hf:∀ {e:TypeId} {size n:Nat} {u:Value} {xs:List Value},w.ownsRow B e size u n xs→e≠127→e≠125→u.ownBlock≠some g→∀ q,u.ownBlock=some q→w'.heap[q]? =w.heap[q]?)
  (hp:∀ a∈mAs S',(∃ a'∈mAs S,a'.block=a.block)∨w.heap.size≤a.block) (hz:w.heap.size≤w'.heap.size):
  MQ w' B Hq vc vk vm vt LC (LK.set i ⟨{ x.d with vw:=l' },x.r,x.v⟩) S' { putK d i { x.d with vw:=l' } with mem:=m' }:=⟨h.toMQ0.view hx hg ho hm hf hp,⟨h.hh.c,h.hh.ci,h.hh.k,(h.hh.same hx _).ki,h.hh.m,fun a ha=>(hp a ha).elim (fun ⟨a',h1,h2⟩=>h2▸h.hh.mi a' h1) (fun e=>h.hn _ e),h.hh.t⟩,fun q hq=>h.hn q (Nat.le_trans hz hq)⟩
/- a load of the program: the view alone is written -/
theorem MQ.viewL {Hq : Nat → Prop} {w w' : World} {B g : Nat} {vc vk vm vt : Value} {LC : List CV} {LK : List KV} {S : List RS} {d : MD} {i : Nat} {x : KV} {l' : List Int} (h : MQ w B Hq vc vk vm vt LC LK S d) (hx : LK[i]? = some x) (hg : x.v.ownBlock = some g) (ho : OwnN w' B x.v l') (he : Exc g (g + 1) w w') :
  MQ w' B Hq vc vk vm vt LC (LK.set i ⟨{ x.d with vw:=l' },x.r,x.v⟩) S (putK d i { x.d with vw:=l' }):=by
 have hv:=(h.k.inn i x hx).2
 have kb:∀ b,b < w.heap.size→b≠g→w'.heap[b]? =w.heap[b]? :=fun b h1 h2=>he.blk b h1 (by omega)
 have hm:OW w' B vm S d.mem:=by
  refine ⟨h.m.n,ownKeep' h.m.row (fun k hk=>kb k (World.ownsRow.lt h.m.row _ hk).2 (fun e=>ownType' h.m.row hv (by decide) hk (by rw [hg,e]))),fun i' r l hr hl=>?_,h.m.d⟩
  have q:=h.m.r i' r l hr hl
  refine q.kept (fun k hk=>kb k (World.ownsRow.lt q.own _ hk).2 (fun e=>ownType' q.own hv (by decide) hk (by rw [hg,e]))) (fun a ha=>kb _ (q.blk ha).2 (fun e=>?_)) he.size
  exact h.sk i x g hx (.inr hg) a (mem_mAs.2 ⟨r,List.mem_of_getElem? hr,mem_rAs.2 (.inr (mem_vsA.1 ha))⟩) e
 have q:=MQ.view (m':=d.mem) h hx hg ho hm (fun hu _ _ hn q hq=>kb q (World.ownsRow.lt hu _ hq).2 (fun e=>hn (by rw [hq,e]))) (fun a ha=>.inl ⟨a,ha,rfl⟩) he.size
 exact q
theorem hasRoom_c {w : World} {gO n cO c m cc : Nat} {s : Option Addr} (b : Bool) (hc : w.cell? ⟨gO, c, none⟩ = some (.slice s m cc)) (hz : gO < w.heap.size) (hn : c < n) (hb : decide (m < 4000) = b) :
  Calls Tryz.prog 126 #[.agg #[.slice (some ⟨gO,0,none⟩) n cO],.int .i64 c] w fun e w'=>e=.returned (.bool b)∧Below w.heap.size w w':=by
 have b0:(0:Int)≤(c:Int):=by omega
 have b1:(c:Int) < (n:Int):=by omega
 have z1:gO < w.heap.size+1:=by omega
 subst hb
 by_cases h:m < 4000
 all_goals
  have hi:((m:Int) < 4000)=(m < 4000):=by simp;omega
  go_enter Tryz.func126,Tryz.ntmps126
  go_wp2
  go_ret
  exact ⟨by simp [h],(Below.refl _ _).alloc (Nat.le_refl _) _⟩
end
section
set_option linter.unusedSimpArgs false
set_option linter.unusedVariables false
set_option maxRecDepth 100000
open Go.RowKit
theorem l6Fin {w W W0 X w6 : World} {B gO cO g5 c5 g6 c6 k n n5 ct nl : Nat} {S : List RS} {m : List (List WD)} {r : RS} {lr : List WD} {st : Option Addr} {told lv : List Int} {z : Int} (hB : B ≤ w.heap.size) (hne : ∀ (i : Nat) (r : RS), S[i]? = some r → 0 < r.vs.length) (hk : S[k]? = some r) (hlm : m[k]? = some lr) (hrv : r.vs.length = lr.length) (valB : (Value.slice r.s lr.length r.c).ownBlock = r.val.ownBlock) (RB : ∀ b, r.val.ownBlock = some b → b < w.heap.size) (hgO : B ≤ gO ∧ gO < w.heap.size) (HMb : ∀ a ∈ mAs S, a.block < w.heap.size)
  (KW:Below w.heap.size w W) (KW0:Below (w.heap.size+2) W W0) (q9:w.heap.size+2≤g5∧g5 < n5) (hsz:W0.heap.size=n5) (HM0:OW W0 B (.slice (some ⟨gO,0,none⟩) m.length cO) S m) (KX:Below W0.heap.size W0 X) (TX:OwnN X W0.heap.size (.slice st n ct) told) (hn:n=told.length) (OVX:OwnN X (w.heap.size+2) (.slice (some ⟨g5,0,none⟩) nl c5) lv)
  (HO6:w6.ownsRow B 127 2 (.slice (some ⟨g6,0,none⟩) (lr.length+1) c6) (lr.length+1) (flatV r.vs lr++[.int .i64 z,.slice st n ct])) (HG6:(X.drew.alloc (.cells #[.int .i64 z,.slice st n ct] 127)).grownBy w6 (Value.slice r.s lr.length r.c).ownBlock) (HN6:(Value.slice r.s lr.length r.c).ownBlock=some g6∨(X.drew.alloc (.cells #[.int .i64 z,.slice st n ct] 127)).heap.size≤g6):
  OwnN ((w6.setCell ⟨gO,k,none⟩ (.slice (some ⟨g6,0,none⟩) (lr.length+1) c6)).setCell ⟨w.heap.size+1,0,none⟩ (.slice (some ⟨gO,0,none⟩) m.length cO)) w.heap.size (.slice (some ⟨g5,0,none⟩) nl c5) lv∧OW ((w6.setCell ⟨gO,k,none⟩ (.slice (some ⟨g6,0,none⟩) (lr.length+1) c6)).setCell ⟨w.heap.size+1,0,none⟩ (.slice (some ⟨gO,0,none⟩) m.length cO)) B (.slice (some ⟨gO,0,none⟩) m.length cO) (S.set k ⟨some ⟨g6,0,none⟩,c6,r.vs++[⟨st,n,ct⟩]⟩) (m.set k (lr++[⟨z,told⟩]))∧Below B w ((w6.setCell ⟨gO,k,none⟩ (.slice (some ⟨g6,0,none⟩) (lr.length+1) c6)).setCell ⟨w.heap.size+1,0,none⟩ (.slice (some ⟨gO,0,none⟩) m.length cO))∧(∀ b,b < w.heap.size→b≠gO→r.val.ownBlock≠some b→((w6.setCell ⟨gO,k,none⟩ (.slice (some ⟨g6,0,none⟩) (lr.length+1) c6)).setCell ⟨w.heap.size+1,0,none⟩ (.slice (some ⟨gO,0,none⟩) m.length cO)).heap[b]? =w.heap[b]?)∧(∀ a∈mAs (S.set k ⟨some ⟨g6,0,none⟩,c6,r.vs++[⟨st,n,ct⟩]⟩),(∃ a'∈mAs S,a'.block=a.block)∨w.heap.size≤a.block)∧(∀ a∈mAs (S.set k ⟨some ⟨g6,0,none⟩,c6,r.vs++[⟨st,n,ct⟩]⟩),a.block≠g5):=by
 obtain ⟨v1,v2,v3,v4⟩:=ownV TX hn
 have zX:=KX.size
 have al:Below X.heap.size X (X.drew.alloc (.cells #[.int .i64 z,.slice st n ct] 127)):=(Below.drew (Below.refl _ _)).alloc (Nat.le_refl _) _
 have hP:=HM0.setRow (w1:=X.drew.alloc (.cells #[.int .i64 z,.slice st n ct] 127)) (w2:=w6) (g:=g6) (cap:=c6) ⟨st,n,ct⟩ ⟨z,told⟩ (KX.trans (al.mono zX)) (by omega) hne hk hlm ((v1.keep (Keep.of_below al (Nat.le_refl _))).mono (Nat.le_refl _) al.size) (fun a ha=>by obtain ⟨cs,f,e⟩:=v2 a ha;exact ⟨cs,f,(al.block _ (v1.blk ha).2).trans e⟩) v3 (by rw [hrv];exact HO6) (by rw [← valB];exact HG6) (by rw [← valB];exact HN6)
 rw [hrv] at hP
 have own0:=((HM0.below KX).r k r lr hk hlm).own
 have hBl:Below B w w6:=(((KW.mono hB).trans (KW0.mono (by omega))).trans (KX.mono (by omega))).trans (Below.grown (al.mono (by omega)) HG6 (by simp;omega) (fun j hj=>(World.ownsRow.lt own0 j (by rw [← valB];exact hj)).1))
 refine ⟨?_,?_,?_,?_,?_,?_⟩
 ·refine ownKeep' (ownLow' OVX (by omega)) (fun b e=>?_)
  have e9:some g5=some b:=e
  injection e9 with e9
  subst e9
  rw [Below.heap_setCell _ _ _ _ (by show g5≠w.heap.size+1;omega),Below.heap_setCell _ _ _ _ (by show g5≠gO;omega)]
  exact (HG6.block g5 (by simp;omega) (fun e=>absurd (RB g5 (by rw [← valB];exact e.symm)) (by omega))).trans (show _=X.heap[g5]? from Below.heap_alloc X.drew _ _ (by show g5 < X.heap.size;omega))
 ·refine hP.far (g:=w.heap.size+1) (fun i r1 hr1=>?_) (fun e=>by have e:some gO=some (w.heap.size+1):=e;injection e with e;omega) (fun a ha=>?_) (fun b _ h1=>Below.heap_setCell _ _ _ b h1) (by simp)
  ·by_cases hik:k=i
   ·subst hik
    rw [List.getElem?_set_self (List.getElem?_eq_some_iff.1 hk).1] at hr1
    injection hr1 with hr1
    subst hr1
    simp
   ·rw [List.getElem?_set_ne hik] at hr1
    exact hne i r1 hr1
  ·obtain ⟨r1,hr1,har⟩:=mem_mAs.1 ha
   rcases List.mem_or_eq_of_mem_set hr1 with hr1 | hr1
   ·have:=HMb a (mem_mAs.2 ⟨r1,hr1,har⟩)
    omega
   ·subst hr1
    rcases mem_rAs.1 har with ⟨i,hi',e⟩ | ⟨x',hx',hax⟩
    ·have eb:a.block=g6:=by rw [e];rfl
     rcases HN6 with hn | hn
     ·have:=RB g6 (by rw [← valB];exact hn)
      omega
     ·simp at hn
      have hn2:X.heap.size+1≤g6:=hn
      omega
    ·rcases List.mem_append.1 hx' with hx' | hx'
     ·have:=HMb a (mem_mAs.2 ⟨r,List.mem_of_getElem? hk,mem_rAs.2 (.inr ⟨x',hx',hax⟩)⟩)
      omega
     ·simp at hx'
      subst hx'
      have:=v4 a hax
      omega
 ·exact (hBl.setCell (p:=⟨gO,k,none⟩) hgO.1 _).setCell (p:=⟨w.heap.size+1,0,none⟩) (by show B≤w.heap.size+1;omega) _
 ·intro b hb h1 h2
  rw [Below.heap_setCell _ _ _ _ (by show b≠w.heap.size+1;omega),Below.heap_setCell _ _ _ _ (by show b≠gO;exact h1)]
  have zK:=KW.size
  have zK0:=KW0.size
  exact (HG6.block b (by simp;omega) (fun e=>h2 (by rw [← valB];exact e.symm))).trans ((show _=X.heap[b]? from Below.heap_alloc X.drew _ _ (by show b < X.heap.size;omega)).trans ((KX.block b (by omega)).trans ((KW0.block b (by omega)).trans (KW.block b hb))))
 ·intro a ha
  obtain ⟨r1,hr1,har⟩:=mem_mAs.1 ha
  rcases List.mem_or_eq_of_mem_set hr1 with hr1 | hr1
  ·exact .inl ⟨a,mem_mAs.2 ⟨r1,hr1,har⟩,rfl⟩
  ·subst hr1
   rcases mem_rAs.1 har with ⟨i,hi',e⟩ | ⟨x',hx',hax⟩
   ·have eb:a.block=g6:=by rw [e];rfl
    rcases HN6 with hn | hn
    ·refine .inl ⟨adr r.s ((0+0) * 2),mem_mAs.2 ⟨r,List.mem_of_getElem? hk,mem_rAs.2 (.inl ⟨0,hne k r hk,rfl⟩)⟩,?_⟩
     rw [eb]
     cases hs:r.s with
     | none=>rw [hs] at hn;cases hn
     | some p=>rw [hs] at hn;injection hn
    ·simp at hn
     have hn2:X.heap.size+1≤g6:=hn
     exact .inr (by omega)
   ·rcases List.mem_append.1 hx' with hx' | hx'
    ·exact .inl ⟨a,mem_mAs.2 ⟨r,List.mem_of_getElem? hk,mem_rAs.2 (.inr ⟨x',hx',hax⟩)⟩,rfl⟩
    ·simp at hx'
     subst hx'
     have:=v4 a hax
     exact .inr (by omega)
 ·intro a ha
  obtain ⟨r1,hr1,har⟩:=mem_mAs.1 ha
  rcases List.mem_or_eq_of_mem_set hr1 with hr1 | hr1
  ·have:=HMb a (mem_mAs.2 ⟨r1,hr1,har⟩)
   omega
  ·subst hr1
   rcases mem_rAs.1 har with ⟨i,hi',e⟩ | ⟨x',hx',hax⟩
   ·have eb:a.block=g6:=by rw [e];rfl
    rcases HN6 with hn | hn
    ·have:=RB g6 (by rw [← valB];exact hn)
     omega
    ·simp at hn
     have hn2:X.heap.size+1≤g6:=hn
     omega
   ·rcases List.mem_append.1 hx' with hx' | hx'
    ·have:=HMb a (mem_mAs.2 ⟨r,List.mem_of_getElem? hk,mem_rAs.2 (.inr ⟨x',hx',hax⟩)⟩)
     omega
    ·simp at hx'
     subst hx'
     have:=v4 a hax
     omega
set_option maxHeartbeats 16000000 in
theorem l6Store_any (gO cO B : Nat) (S : List RS) (m : List (List WD)) (r : RS) (lr : List WD) (s' : Option Addr) (c' lo' hi' : Nat) (l : List Int) (k : Nat) (z : Int) (b : Bool) (w : World) (h' : IntsR w lo' hi' s' l) (hB' : hi' ≤ w.heap.size) (hM : OW w B (.slice (some ⟨gO, 0, none⟩) m.length cO) S m) (hne : ∀ (i : Nat) (r : RS), S[i]? = some r → 0 < r.vs.length)
  (hk:S[k]? =some r) (hlm:m[k]? =some lr) (hl:l.length=24) (hkl:k < 24) (hml:m.length=24) (hlr:lr.length≤4000) (hB:B≤w.heap.size):
  Calls Tryz.prog 83 #[.agg #[.slice (some ⟨gO,0,none⟩) m.length cO],.slice s' l.length c',.int .i64 k,.int .i64 z,.bool b] w fun e w'=>∃ v r',e=.returned (.tuple #[.agg #[.slice (some ⟨gO,0,none⟩) m.length cO],v])∧OwnN w' w.heap.size v (l.set k (lr.length:Int))∧OW w' B (.slice (some ⟨gO,0,none⟩) m.length cO) (S.set k r') (m.set k (lr++[⟨z,toldL l k lr.length b⟩]))∧Below B w w'∧(∀ b',b' < w.heap.size→b'≠gO→r.val.ownBlock≠some b'→w'.heap[b']? =w.heap[b']?)∧(∀ a∈mAs (S.set k r'),(∃ a'∈mAs S,a'.block=a.block)∨w.heap.size≤a.block)∧(∀ a∈mAs (S.set k r'),v.ownBlock≠some a.block):=by
 have hrow:=hM.row
 rw [hM.n] at hrow
 have hgO:=World.ownsRow.lt hrow gO rfl
 have q:=hM.r k r lr hk hlm
 have hrv:r.vs.length=lr.length:=q.n
 have c1:w.cell? ⟨gO,k,none⟩=some (.slice r.s lr.length r.c):=by
  rw [World.ownsRow.cellAt hrow k (by omega),List.getElem?_map,hk]
  simp [RS.val,hrv]
 have f1:∀ j,w.frozen? ⟨gO,j,none⟩=false:=fun j=>World.ownsRow.frozenAt hrow j
 have HI:Hid (IntsR w lo' hi' s' l):=h'
 have HM:Hid (OW w B (.slice (some ⟨gO,0,none⟩) m.length cO) S m):=hM
 have HLL:Hid (l.length=24):=hl
 have HML:Hid (m.length=24):=hml
 have B0:(0:Int)≤(k:Int):=by omega
 have B1:(k:Int) < (l.length:Int):=by omega
 have B2:(k:Int) < (m.length:Int):=by omega
 have B3:(k:Int) < 24:=by omega
 have hl2:l.length≤1048577:=by omega
 have hl3:0 < l.length:=by omega
 have hkl2:k < l.length:=by omega
 have hmk:∀ w:World,(Instr.makeSlice 41 (.int .i64 24) (.int .i64 24)).run Tryz.prog w=.ok (.slice (some ⟨w.heap.size,0,none⟩) 24 24) (w.alloc (.cells (madeCells #[.int .i64 0] 24) 3)):=fun w=>mkInt 24 (by omega) w
 have valB:(Value.slice r.s lr.length r.c).ownBlock=r.val.ownBlock:=by unfold RS.val;cases r.s<;>rfl
 have RB:Hid (∀ b,r.val.ownBlock=some b→b < w.heap.size):=fun b e=>(World.ownsRow.lt q.own _ e).2
 clear h' hM hrow q hl hml
 go_enter Tryz.func83,Tryz.ntmps83
 obtain ⟨W,hW⟩:∃ W,(w.alloc (.cells #[.slice (some ⟨gO,0,none⟩) m.length cO] 37)).alloc (.cells #[.slice none 0 0] 37)=W:=⟨_,rfl⟩
 have HW:Hid ((w.alloc (.cells #[.slice (some ⟨gO,0,none⟩) m.length cO] 37)).alloc (.cells #[.slice none 0 0] 37)=W):=hW
 have KW:Hid (Below w.heap.size w W):=by subst hW;exact ((Below.refl _ _).alloc (Nat.le_refl _) _).alloc (by simp) _
 have sW:W.heap.size=w.heap.size+2:=by subst hW;simp
 have SW:Hid (W.heap.size=w.heap.size+2):=sW
 have HI1:Hid (IntsR (((w.alloc (.cells #[.slice (some ⟨gO,0,none⟩) m.length cO] 37)).alloc (.cells #[.slice none 0 0] 37)).alloc (.cells #[] 3)) lo' hi' s' l):=HI.out.keep (Keep.of_below ((((Below.refl _ _).alloc (Nat.le_refl _) _).alloc (by simp) _).alloc (by simp;omega) _) hB')
 clear hW sW
 go_wp2_with (at_builtin;refine app_copyI rfl _ _ rfl rfl _ (w.heap.size+2) (some ⟨w.heap.size+1+1,0,none⟩) 0 rfl (by have h9:=ownN_empty (w:=(w.alloc (.cells #[.slice (some ⟨gO,0,none⟩) m.length cO] 37)).alloc (.cells #[.slice none 0 0] 37)) (base:=w.heap.size+2) (by simp);simpa using h9) s' c' l rfl HI1.out (by omega) (by simp) ?_;intro s5 c5 w5 ho5 hc5;obtain ⟨g5,cap5,e5,-⟩:=World.ownsRow.form ho5 hl3;injection e5 with e51 e52 e53;subst e51;have hb5:Below (w.heap.size+2) ((w.alloc (.cells #[.slice (some ⟨gO,0,none⟩) m.length cO] 37)).alloc (.cells #[.slice none 0 0] 37)) w5:=((Below.refl _ _).alloc (by simp) _).trans hc5.low;rw [HW.out] at hb5;have t0:w5.cell? ⟨w.heap.size,0,none⟩=some (.slice (some ⟨gO,0,none⟩) m.length cO):=(hb5.cell (p:=⟨w.heap.size,0,none⟩) (show w.heap.size < w.heap.size+2 by omega)).trans (by rw [← HW.out];simp [go_sem]);have t1:=(hb5.cell (p:=⟨gO,k,none⟩) (show gO < w.heap.size+2 by omega)).trans ((KW.out.cell (p:=⟨gO,k,none⟩) hgO.2).trans c1);have t2:w5.cell? ⟨g5,k,none⟩=some (.int .i64 (l.getD k 0)):=ho5.cell hkl2;have t3:∀ j,w5.frozen? ⟨g5,j,none⟩=false:=(fun j=>World.ownsRow.frozenAt ho5 j);have q9:=World.ownsRow.lt ho5 g5 rfl;have n1:¬ g5=w.heap.size:=(by omega);have n2:¬ g5=gO:=(by omega);have n3:¬ w.heap.size=g5:=(by omega);have n4:¬ gO=g5:=(by omega);have HO5:Hid (OwnN w5 (w.heap.size+2) (.slice (some ⟨g5,0,none⟩) l.length c5) l):=ho5;have HB5:Hid (Below (w.heap.size+2) W w5):=hb5;clear ho5 hc5 hb5 e53)
 obtain ⟨W0,hW0⟩:∃ W0,w5.setCell ⟨g5,k,none⟩ (.int .i64 lr.length)=W0:=⟨_,rfl⟩
 have s0:W0.heap.size=w5.heap.size:=by subst hW0;simp
 have OV0:Hid (OwnN W0 (w.heap.size+2) (.slice (some ⟨g5,0,none⟩) l.length c5) (l.set k (lr.length:Int))):=by
  subst hW0
  have p5:=(World.ownsRow.stored HO5.out k (.int .i64 lr.length)).1
  show OwnN _ _ _ _
  unfold OwnN
  rw [List.map_set,List.length_set]
  exact p5
 have KW0:Hid (Below (w.heap.size+2) W W0):=by subst hW0;exact HB5.out.setCell (p:=⟨g5,k,none⟩) q9.1 _
 have SW0:Hid (W0.heap.size=w5.heap.size):=s0
 have y0:w5.cell? ⟨w.heap.size,0,none⟩=some (.slice (some ⟨gO,0,none⟩) m.length cO):=t0
 obtain ⟨Y,hY⟩:∃ Y,(W0.alloc (.cells (madeCells #[.int .i64 0] 24) 3)).alloc (.cells #[.int .i64 z,.slice (some ⟨w5.heap.size,0,none⟩) 24 24] 127)=Y:=⟨_,rfl⟩
 have KY:Below W0.heap.size W0 Y:=by subst hY;exact ((Below.refl _ _).alloc (Nat.le_refl _) _).alloc (by simp) _
 have sY:Y.heap.size=w5.heap.size+2:=by subst hY;simp [s0]
 have a0:Y.cell? ⟨w5.heap.size+1,0,none⟩=some (.int .i64 z):=by subst hY;rw [← s0];simp [go_sem]
 have a1:Y.cell? ⟨w5.heap.size+1,1,none⟩=some (.slice (some ⟨w5.heap.size,0,none⟩) 24 24):=by subst hY;rw [← s0];simp [go_sem]
 have a2:Y.cell? ⟨g5,k,none⟩=some (.int .i64 lr.length):=(KY.cell (p:=⟨g5,k,none⟩) (by show g5 < _;omega)).trans (by subst hW0;exact setC_at (by rw [t2];rfl))
 have TY0:OwnN Y W0.heap.size (.slice (some ⟨w5.heap.size,0,none⟩) 24 24) (List.replicate 24 0):=by
  subst hY
  have h0:=World.ownsRow_lit (base:=W0.heap.size) (e:=3) (size:=1) W0 (madeCells #[.int .i64 0] 24) 24 (Nat.le_refl _) (by unfold maxLen;omega) (by rw [size_madeCells])
  rw [toList_madeCells_one,s0] at h0
  have h1:=World.ownsRow.alloc h0 (.cells #[.int .i64 z,.slice (some ⟨w5.heap.size,0,none⟩) 24 24] 127)
  unfold OwnN
  rw [List.map_replicate,List.length_replicate,s0]
  exact h1
 have a3:Y.cell? ⟨w5.heap.size,k,none⟩=some (.int .i64 0):=by
  have:=TY0.cell (i:=k) (by simp;omega)
  rw [this,List.getD_eq_getElem?_getD,List.getElem?_replicate,if_pos hkl]
  rfl
 have a4:∀ j,Y.frozen? ⟨w5.heap.size,j,none⟩=false:=fun j=>World.ownsRow.frozenAt TY0 j
 have a5:∀ j,Y.frozen? ⟨w5.heap.size+1,j,none⟩=false:=fun j=>by subst hY;rw [← s0];simp [go_sem]
 have HTY:Hid (OwnN Y W0.heap.size (.slice (some ⟨w5.heap.size,0,none⟩) 24 24) (List.replicate 24 0)):=TY0
 have HKY:Hid (Below W0.heap.size W0 Y):=KY
 have b0:Y.cell? ⟨w.heap.size,0,none⟩=some (.slice (some ⟨gO,0,none⟩) m.length cO):=(KY.cell (p:=⟨w.heap.size,0,none⟩) (by show w.heap.size < _;omega)).trans (by subst hW0;rw [setC_blk (by omega)];exact t0)
 have b1:Y.cell? ⟨gO,k,none⟩=some (.slice r.s lr.length r.c):=(KY.cell (p:=⟨gO,k,none⟩) (by show gO < _;omega)).trans (by subst hW0;rw [setC_blk (by omega)];exact t1)
 rw [hW0,hY]
 clear hW0 hY TY0 KY t0 t1 t2 t3 y0
 have z1:w5.heap.size < Y.heap.size:=by omega
 have z2:w5.heap.size+1 < Y.heap.size:=by omega
 have z3:g5 < Y.heap.size:=by omega
 have z4:w.heap.size < Y.heap.size:=by omega
 have z5:gO < Y.heap.size:=by omega
 have SY:Hid (Y.heap.size=w5.heap.size+2):=sY
 clear sY s0
 go_region
 obtain ⟨Z,hZ⟩:∃ Z,(Y.setCell ⟨w5.heap.size,k,none⟩ (.int .i64 lr.length)).drew=Z:=⟨_,rfl⟩
 have hs0:=SW0.out
 have KZ:Below W0.heap.size W0 Z:=by subst hZ;exact (HKY.out.setCell (p:=⟨w5.heap.size,k,none⟩) (by show W0.heap.size≤w5.heap.size;omega) _).drew
 have kZ:∀ b,b≠w5.heap.size→Z.heap[b]? =Y.heap[b]? :=fun b hb=>by subst hZ;exact Below.heap_setCell _ _ _ b hb
 have ZZ:Z.heap.size=Y.heap.size:=by subst hZ;show (Y.setCell _ _).heap.size=_;simp
 have TZ:Hid (OwnN Z W0.heap.size (.slice (some ⟨w5.heap.size,0,none⟩) 24 24) ((List.replicate 24 (0:Int)).set k (lr.length:Int))):=by
  subst hZ
  have p5:=(World.ownsRow.stored HTY.out k (.int .i64 lr.length)).1
  show OwnN _ _ _ _
  unfold OwnN
  rw [List.map_set,List.length_set]
  exact p5
 have d0:Z.cell? ⟨w.heap.size,0,none⟩=some (.slice (some ⟨gO,0,none⟩) m.length cO):=(World.cell?_of_block (w:=Y) (kZ w.heap.size (by omega))).trans b0
 have d1:Z.cell? ⟨gO,k,none⟩=some (.slice r.s lr.length r.c):=(World.cell?_of_block (w:=Y) (kZ gO (by omega))).trans b1
 have d2:Z.cell? ⟨w5.heap.size+1,0,none⟩=some (.int .i64 z):=(World.cell?_of_block (w:=Y) (kZ (w5.heap.size+1) (by omega))).trans a0
 have d3:Z.cell? ⟨w5.heap.size+1,1,none⟩=some (.slice (some ⟨w5.heap.size,0,none⟩) 24 24):=(World.cell?_of_block (w:=Y) (kZ (w5.heap.size+1) (by omega))).trans a1
 have d4:∀ j,Z.frozen? ⟨w5.heap.size+1,j,none⟩=false:=fun j=>(World.frozen?_of_block (w:=Y) (kZ (w5.heap.size+1) (by omega))).trans (a5 j)
 have hW9:∀ b,b < w.heap.size+2→W0.heap[b]? =W.heap[b]? :=fun b hb=>KW0.out.block b hb
 have d5:∀ j,Z.frozen? ⟨gO,j,none⟩=false:=fun j=>(KZ.frozen (p:=⟨gO,j,none⟩) (by show gO < _;omega)).trans ((World.frozen?_of_block (w:=W) (hW9 gO (by omega))).trans ((KW.out.frozen (p:=⟨gO,j,none⟩) hgO.2).trans (f1 j)))
 have d6:Z.cell? ⟨w.heap.size+1,0,none⟩=some (.slice none 0 0):=(KZ.cell (p:=⟨w.heap.size+1,0,none⟩) (by show w.heap.size+1 < _;omega)).trans ((World.cell?_of_block (w:=W) (hW9 (w.heap.size+1) (by omega))).trans (by rw [← HW.out];simp [go_sem]))
 have d7:∀ j,Z.frozen? ⟨w.heap.size+1,j,none⟩=false:=fun j=>(KZ.frozen (p:=⟨w.heap.size+1,j,none⟩) (by show w.heap.size+1 < _;omega)).trans ((World.frozen?_of_block (w:=W) (hW9 (w.heap.size+1) (by omega))).trans (by rw [← HW.out];simp [go_sem]))
 have HM0:Hid (OW W0 B (.slice (some ⟨gO,0,none⟩) m.length cO) S m):=(HM.out.below KW.out).below (by rw [SW.out];exact KW0.out)
 have HMb:Hid (∀ a∈mAs S,a.block < w.heap.size):=fun a ha=>(HM.out.om.blk ha).2
 have HKZ:Hid (Below W0.heap.size W0 Z):=KZ
 have OVZ:Hid (OwnN Z (w.heap.size+2) (.slice (some ⟨g5,0,none⟩) l.length c5) (l.set k (lr.length:Int))):=OV0.out.below KZ
 have HZZ:Hid (Z.heap.size=w5.heap.size+2):=by show _=_;rw [ZZ,SY.out]
 rw [hZ]
 clear hZ KZ kZ ZZ a0 a1 a2 a3 a4 a5 b0 b1 hW9 hs0
 cases b
 ·obtain ⟨X,hX⟩:∃ X,Z=X:=⟨_,rfl⟩
  subst hX
  have x0:=d0
  have x1:=d1
  have fx:=d5
  have xa:=d2
  have xb:=d3
  have xr:=d6
  have fr:=d7
  have KX:=HKZ
  have TX:=TZ
  have OVX:=OVZ
  have hsz:=SW0.out
  have ZX:Hid (w5.heap.size+2≤Z.heap.size):=by show _≤_;rw [HZZ.out];exact Nat.le_refl _
  clear d0 d1 d2 d3 d4 d5 d6 d7
  go_wp2_with fail
  have OWX:Hid (OW (Z.drew.alloc (.cells #[.int .i64 z,.slice (some ⟨w5.heap.size,0,none⟩) 24 24] 127)) B (.slice (some ⟨gO,0,none⟩) m.length cO) S m):=(HM0.out.below KX.out).below ((Below.drew (Below.refl _ _)).alloc (Nat.le_refl _) _)
  have zX:=KX.out.size
  have y1:w.heap.size < Z.heap.size:=by omega
  have y2:gO < Z.heap.size:=by omega
  have y3:B≤Z.heap.size:=by omega
  have y4:w5.heap.size+1 < Z.heap.size:=by have:=ZX.out;omega
  have y5:w.heap.size+1 < Z.heap.size:=by omega
  go_region_law (refine step_rec rfl _ _ rfl (Z.drew.alloc (.cells #[.int .i64 z,.slice (some ⟨w5.heap.size,0,none⟩) 24 24] 127)) B (.slice r.s lr.length r.c) lr.length (flatV r.vs lr) rfl (by have:=(OWX.out.r k r lr hk hlm).own;unfold RS.val at this;rw [hrv] at this;exact this) Z.heap.size (.int .i64 z) (.slice (some ⟨w5.heap.size,0,none⟩) 24 24) rfl rfl rfl (by simp [go_sem]) (by simp [go_sem]) (by omega) (by simp;omega) ?_;intro g6 c6 w6 ho6 hg6 hn6 hl6;have oc:w6.heap[gO]? =Z.heap[gO]? :=(hg6.block gO (by simp;omega) (fun e=>(OWX.out.outNe hk hlm (b:=gO) (by rw [← valB];exact e.symm)) rfl)).trans (show _=Z.heap[gO]? from Below.heap_alloc Z.drew _ _ y2);have ob:w6.heap[w.heap.size]? =Z.heap[w.heap.size]? :=(hg6.block w.heap.size (by simp;omega) (fun e=>absurd (RB.out w.heap.size (by rw [← valB];exact e.symm)) (Nat.lt_irrefl _))).trans (show _=Z.heap[w.heap.size]? from Below.heap_alloc Z.drew _ _ y1);have ob1:w6.heap[w.heap.size+1]? =Z.heap[w.heap.size+1]? :=(hg6.block (w.heap.size+1) (by simp;omega) (fun e=>absurd (RB.out (w.heap.size+1) (by rw [← valB];exact e.symm)) (by omega))).trans (show _=Z.heap[w.heap.size+1]? from Below.heap_alloc Z.drew _ _ y5);have ob5:w6.heap[w5.heap.size+1]? =Z.heap[w5.heap.size+1]? :=(hg6.block (w5.heap.size+1) (by simp;omega) (fun e=>absurd (RB.out (w5.heap.size+1) (by rw [← valB];exact e.symm)) (by omega))).trans (show _=Z.heap[w5.heap.size+1]? from Below.heap_alloc Z.drew _ _ y4);have t0:=(World.cell?_of_block (w:=Z) (a:=⟨w.heap.size,0,none⟩) ob).trans x0;have t1:=(World.cell?_of_block (w:=Z) (a:=⟨gO,k,none⟩) oc).trans x1;have t2:∀ j,w6.frozen? ⟨gO,j,none⟩=false:=(fun j=>(World.frozen?_of_block (w:=Z) (a:=⟨gO,j,none⟩) oc).trans (fx j));have t3:=(World.cell?_of_block (w:=Z) (a:=⟨w.heap.size+1,0,none⟩) ob1).trans xr;have t4:∀ j,w6.frozen? ⟨w.heap.size+1,j,none⟩=false:=(fun j=>(World.frozen?_of_block (w:=Z) (a:=⟨w.heap.size+1,j,none⟩) ob1).trans (fr j));have t5:=(World.cell?_of_block (w:=Z) (a:=⟨w5.heap.size+1,0,none⟩) ob5).trans xa;have t6:=(World.cell?_of_block (w:=Z) (a:=⟨w5.heap.size+1,1,none⟩) ob5).trans xb;have HO6:=(show Hid _ from ho6);have HG6:=(show Hid _ from hg6);have HN6:=(show Hid _ from hn6);clear ho6 hg6 hn6)
  all_goals
   have j1:¬ gO=w.heap.size:=by omega
   have j2:¬ gO=w.heap.size+1:=by omega
   have j3:gO < w6.heap.size:=by have:=HG6.out.size;simp at this;omega
   go_wp2
   obtain ⟨p1,p2,p3,p4,p5,p6⟩:=l6Fin (X:=Z) hB hne hk hlm hrv valB RB.out hgO HMb.out KW.out KW0.out q9 hsz HM0.out KX.out TX.out (by rw [List.length_set];rw [List.length_replicate]) OVX.out HO6.out HG6.out HN6.out
   refine bodyPost_ret (v:=.tuple #[.agg #[.slice (some ⟨gO,0,none⟩) m.length cO],.slice (some ⟨g5,0,none⟩) l.length c5]) (by simp [results,Tryz.results83,go_sem,t3,j1,j2]) rfl ⟨_,⟨some ⟨g6,0,none⟩,c6,r.vs++[⟨some ⟨w5.heap.size,0,none⟩,24,24⟩]⟩,rfl,p1,p2,p3,p4,p5,fun a ha e=>p6 a ha (by injection e with e;exact e.symm)⟩
 ·have hls:(l.set k (lr.length:Int)).length=l.length:=List.length_set
  have YR:Hid (IntsR (Z.alloc (.cells #[] 3)) (w.heap.size+2) Z.heap.size (some ⟨g5,0,none⟩) (l.set k (lr.length:Int))):=(ownN_intsR (c:=c5) (by rw [List.length_set];exact OVZ.out)).keep (Keep.of_below ((Below.refl _ _).alloc (Nat.le_refl _) _) (Nat.le_refl _))
  have z9:w5.heap.size+1 < Z.heap.size:=by rw [HZZ.out];omega
  have hsz:=SW0.out
  have hsz2:W0.heap.size≤Z.heap.size:=HKZ.out.size
  have YR2:Hid (∃ L:List Int,L=l.set k (lr.length:Int)∧L.length=l.length∧IntsR (Z.alloc (.cells #[] 3)) (w.heap.size+2) Z.heap.size (some ⟨g5,0,none⟩) L):=⟨_,rfl,hls,YR.out⟩
  obtain ⟨L,eL,lL,rL⟩:=YR2.out
  have HEL:Hid (L=l.set k (lr.length:Int)):=eL
  have HRL:Hid (IntsR (Z.alloc (.cells #[] 3)) (w.heap.size+2) Z.heap.size (some ⟨g5,0,none⟩) L):=rL
  have HlL:Hid (L.length=l.length):=lL
  clear YR YR2 hls eL rL lL
  go_wp2_with (at_builtin;refine app_copyI rfl _ _ rfl rfl _ Z.heap.size (some ⟨Z.heap.size,0,none⟩) 0 rfl (ownN_empty (Nat.le_refl _)) (some ⟨g5,0,none⟩) c5 L (by rw [HlL.out];rfl) HRL.out (by rw [HlL.out];omega) (by simp) ?_;rw [HlL.out];intro s7 c7 w7 ho7 hc7;have hb7:Below Z.heap.size Z w7:=((Below.refl _ _).alloc (Nat.le_refl _) _).trans hc7.low;have e0:=(hb7.cell (p:=⟨w5.heap.size+1,0,none⟩) z9).trans d2;have e1:=(hb7.cell (p:=⟨w5.heap.size+1,1,none⟩) z9).trans d3;have e4:∀ j,w7.frozen? ⟨w5.heap.size+1,j,none⟩=false:=(fun j=>(hb7.frozen (p:=⟨w5.heap.size+1,j,none⟩) z9).trans (d4 j));have HO7:=(show Hid _ from ho7);have HB7:Hid (Below Z.heap.size Z w7):=hb7;have z7:=hb7.size;have z8:w5.heap.size+1 < w7.heap.size:=(by omega);clear ho7 hc7 hb7)
  obtain ⟨X,hX⟩:∃ X,w7.setCell ⟨w5.heap.size+1,1,none⟩ (.slice s7 l.length c7)=X:=⟨_,rfl⟩
  have kX:∀ b,b≠w5.heap.size+1→b < Z.heap.size→X.heap[b]? =Z.heap[b]? :=fun b h1 h2=>by subst hX;rw [Below.heap_setCell _ _ _ b h1];exact HB7.out.block b h2
  have x0:X.cell? ⟨w.heap.size,0,none⟩=some (.slice (some ⟨gO,0,none⟩) m.length cO):=(World.cell?_of_block (w:=Z) (kX w.heap.size (by omega) (by omega))).trans d0
  have x1:X.cell? ⟨gO,k,none⟩=some (.slice r.s lr.length r.c):=(World.cell?_of_block (w:=Z) (kX gO (by omega) (by omega))).trans d1
  have fx:∀ j,X.frozen? ⟨gO,j,none⟩=false:=fun j=>(World.frozen?_of_block (w:=Z) (kX gO (by omega) (by omega))).trans (d5 j)
  have xr:X.cell? ⟨w.heap.size+1,0,none⟩=some (.slice none 0 0):=(World.cell?_of_block (w:=Z) (kX (w.heap.size+1) (by omega) (by omega))).trans d6
  have fr:∀ j,X.frozen? ⟨w.heap.size+1,j,none⟩=false:=fun j=>(World.frozen?_of_block (w:=Z) (kX (w.heap.size+1) (by omega) (by omega))).trans (d7 j)
  have xa:X.cell? ⟨w5.heap.size+1,0,none⟩=some (.int .i64 z):=by subst hX;rw [setC_off (by omega)];exact e0
  have xb:X.cell? ⟨w5.heap.size+1,1,none⟩=some (.slice s7 l.length c7):=by subst hX;exact setC_at (by rw [e1];rfl)
  have KX:Hid (Below W0.heap.size W0 X):=by subst hX;exact (HKZ.out.trans (HB7.out.mono hsz2)).setCell (p:=⟨w5.heap.size+1,1,none⟩) (by show W0.heap.size≤w5.heap.size+1;omega) _
  have TX:Hid (OwnN X W0.heap.size (.slice s7 l.length c7) (l.set k (lr.length:Int))):=by
   have h9:=HO7.out
   rw [HEL.out] at h9
   exact ownLow' (ownKeep' h9 (fun b e=>by have:=(World.ownsRow.lt h9 _ e).1;subst hX;exact Below.heap_setCell _ _ _ b (by show b≠w5.heap.size+1;omega))) hsz2
  have OVX:Hid (OwnN X (w.heap.size+2) (.slice (some ⟨g5,0,none⟩) l.length c5) (l.set k (lr.length:Int))):=ownKeep' OVZ.out (fun b e=>by have e9:some g5=some b:=e;injection e9 with e9;subst e9;exact kX g5 (by omega) (by omega))
  have ZX:Hid (w5.heap.size+2≤X.heap.size):=by subst hX;show _≤(w7.setCell _ _).heap.size;simp;omega
  rw [hX]
  clear hX kX d0 d1 d2 d3 d4 d5 d6 d7 e0 e1 e4
  go_wp2_with fail
  have OWX:Hid (OW (X.drew.alloc (.cells #[.int .i64 z,.slice s7 l.length c7] 127)) B (.slice (some ⟨gO,0,none⟩) m.length cO) S m):=(HM0.out.below KX.out).below ((Below.drew (Below.refl _ _)).alloc (Nat.le_refl _) _)
  have zX:=KX.out.size
  have y1:w.heap.size < X.heap.size:=by omega
  have y2:gO < X.heap.size:=by omega
  have y3:B≤X.heap.size:=by omega
  have y4:w5.heap.size+1 < X.heap.size:=by have:=ZX.out;omega
  have y5:w.heap.size+1 < X.heap.size:=by omega
  go_region_law (refine step_rec rfl _ _ rfl (X.drew.alloc (.cells #[.int .i64 z,.slice s7 l.length c7] 127)) B (.slice r.s lr.length r.c) lr.length (flatV r.vs lr) rfl (by have:=(OWX.out.r k r lr hk hlm).own;unfold RS.val at this;rw [hrv] at this;exact this) X.heap.size (.int .i64 z) (.slice s7 l.length c7) rfl rfl rfl (by simp [go_sem]) (by simp [go_sem]) (by omega) (by simp;omega) ?_;intro g6 c6 w6 ho6 hg6 hn6 hl6;have oc:w6.heap[gO]? =X.heap[gO]? :=(hg6.block gO (by simp;omega) (fun e=>(OWX.out.outNe hk hlm (b:=gO) (by rw [← valB];exact e.symm)) rfl)).trans (show _=X.heap[gO]? from Below.heap_alloc X.drew _ _ y2);have ob:w6.heap[w.heap.size]? =X.heap[w.heap.size]? :=(hg6.block w.heap.size (by simp;omega) (fun e=>absurd (RB.out w.heap.size (by rw [← valB];exact e.symm)) (Nat.lt_irrefl _))).trans (show _=X.heap[w.heap.size]? from Below.heap_alloc X.drew _ _ y1);have ob1:w6.heap[w.heap.size+1]? =X.heap[w.heap.size+1]? :=(hg6.block (w.heap.size+1) (by simp;omega) (fun e=>absurd (RB.out (w.heap.size+1) (by rw [← valB];exact e.symm)) (by omega))).trans (show _=X.heap[w.heap.size+1]? from Below.heap_alloc X.drew _ _ y5);have ob5:w6.heap[w5.heap.size+1]? =X.heap[w5.heap.size+1]? :=(hg6.block (w5.heap.size+1) (by simp;omega) (fun e=>absurd (RB.out (w5.heap.size+1) (by rw [← valB];exact e.symm)) (by omega))).trans (show _=X.heap[w5.heap.size+1]? from Below.heap_alloc X.drew _ _ y4);have t0:=(World.cell?_of_block (w:=X) (a:=⟨w.heap.size,0,none⟩) ob).trans x0;have t1:=(World.cell?_of_block (w:=X) (a:=⟨gO,k,none⟩) oc).trans x1;have t2:∀ j,w6.frozen? ⟨gO,j,none⟩=false:=(fun j=>(World.frozen?_of_block (w:=X) (a:=⟨gO,j,none⟩) oc).trans (fx j));have t3:=(World.cell?_of_block (w:=X) (a:=⟨w.heap.size+1,0,none⟩) ob1).trans xr;have t4:∀ j,w6.frozen? ⟨w.heap.size+1,j,none⟩=false:=(fun j=>(World.frozen?_of_block (w:=X) (a:=⟨w.heap.size+1,j,none⟩) ob1).trans (fr j));have t5:=(World.cell?_of_block (w:=X) (a:=⟨w5.heap.size+1,0,none⟩) ob5).trans xa;have t6:=(World.cell?_of_block (w:=X) (a:=⟨w5.heap.size+1,1,none⟩) ob5).trans xb;have HO6:=(show Hid _ from ho6);have HG6:=(show Hid _ from hg6);have HN6:=(show Hid _ from hn6);clear ho6 hg6 hn6)
  all_goals
   have j1:¬ gO=w.heap.size:=by omega
   have j2:¬ gO=w.heap.size+1:=by omega
   have j3:gO < w6.heap.size:=by have:=HG6.out.size;simp at this;omega
   go_wp2
   obtain ⟨p1,p2,p3,p4,p5,p6⟩:=l6Fin (X:=X) hB hne hk hlm hrv valB RB.out hgO HMb.out KW.out KW0.out q9 hsz HM0.out KX.out TX.out (by rw [List.length_set]) OVX.out HO6.out HG6.out HN6.out
   refine bodyPost_ret (v:=.tuple #[.agg #[.slice (some ⟨gO,0,none⟩) m.length cO],.slice (some ⟨g5,0,none⟩) l.length c5]) (by simp [results,Tryz.results83,go_sem,t3,j1,j2]) rfl ⟨_,⟨some ⟨g6,0,none⟩,c6,r.vs++[⟨s7,l.length,c7⟩]⟩,rfl,p1,p2,p3,p4,p5,fun a ha e=>p6 a ha (by injection e with e;exact e.symm)⟩
end
section
set_option linter.unusedSimpArgs false
set_option linter.unusedVariables false
set_option maxRecDepth 100000
open Go.RowKit
theorem own_tb {w:World} {base size n b:Nat} {e T:TypeId} {v:Value} {xs:List Value} (h:w.ownsRow base e size v n xs) (he:e≠T) (hb:TyB w b T):v.ownBlock≠some b:=fun hk=>by
 obtain ⟨cs,f,c⟩:=own_ty h hk
 exact he (TyB.ne ⟨cs,f,c⟩ hb)
/- the boxes of a step of memory: machine, pick, step, answer, core -/
structure Bm5 (V:World) (z:Nat) (m0 m1 m2 m3 x0 x1 s0 s1 s2 s3 s4 k0 k1 k2 k3:Value):Prop where
 m0:V.cell? ⟨z,0,none⟩=some m0
 m1:V.cell? ⟨z,1,none⟩=some m1
 m2:V.cell? ⟨z,2,none⟩=some m2
 m3:V.cell? ⟨z,3,none⟩=some m3
 x0:V.cell? ⟨z+1,0,none⟩=some x0
 x1:V.cell? ⟨z+1,1,none⟩=some x1
 s0:V.cell? ⟨z+1+1,0,none⟩=some s0
 s1:V.cell? ⟨z+1+1,1,none⟩=some s1
 s2:V.cell? ⟨z+1+1,2,none⟩=some s2
 s3:V.cell? ⟨z+1+1,3,none⟩=some s3
 s4:V.cell? ⟨z+1+1,4,none⟩=some s4
 a0:V.cell? ⟨z+1+1+1,0,none⟩=some (.slice none 0 0)
 a1:V.cell? ⟨z+1+1+1,1,none⟩=some (.slice none 0 0)
 a2:V.cell? ⟨z+1+1+1,2,none⟩=some (.slice none 0 0)
 a3:V.cell? ⟨z+1+1+1,3,none⟩=some (.slice none 0 0)
 k0:V.cell? ⟨z+1+1+1+1,0,none⟩=some k0
 k1:V.cell? ⟨z+1+1+1+1,1,none⟩=some k1
 k2:V.cell? ⟨z+1+1+1+1,2,none⟩=some k2
 k3:V.cell? ⟨z+1+1+1+1,3,none⟩=some k3
 fm:∀ j,V.frozen? ⟨z,j,none⟩=false
 fa:∀ j,V.frozen? ⟨z+1+1+1,j,none⟩=false
 fk:∀ j,V.frozen? ⟨z+1+1+1+1,j,none⟩=false
 bt:BxT V z∧BxT V (z+1+1+1)∧TyB V (z+1+1+1+1) 64
 z:z+1+1+1+1 < V.heap.size
theorem Bm5.keep {V V':World} {z:Nat} {m0 m1 m2 m3 x0 x1 s0 s1 s2 s3 s4 k0 k1 k2 k3:Value} (h:Bm5 V z m0 m1 m2 m3 x0 x1 s0 s1 s2 s3 s4 k0 k1 k2 k3) (hb:∀ b,z≤b→b < V.heap.size→V'.heap[b]? =V.heap[b]?) (hs:V.heap.size≤V'.heap.size):Bm5 V' z m0 m1 m2 m3 x0 x1 s0 s1 s2 s3 s4 k0 k1 k2 k3:=by
 have hz:=h.z
 have c0:∀ j,V'.cell? ⟨z,j,none⟩=V.cell? ⟨z,j,none⟩:=fun j=>World.cell?_of_block (hb z (by omega) (by omega))
 have c1:∀ j,V'.cell? ⟨z+1,j,none⟩=V.cell? ⟨z+1,j,none⟩:=fun j=>World.cell?_of_block (hb (z+1) (by omega) (by omega))
 have c2:∀ j,V'.cell? ⟨z+1+1,j,none⟩=V.cell? ⟨z+1+1,j,none⟩:=fun j=>World.cell?_of_block (hb (z+1+1) (by omega) (by omega))
 have c3:∀ j,V'.cell? ⟨z+1+1+1,j,none⟩=V.cell? ⟨z+1+1+1,j,none⟩:=fun j=>World.cell?_of_block (hb (z+1+1+1) (by omega) (by omega))
 have c4:∀ j,V'.cell? ⟨z+1+1+1+1,j,none⟩=V.cell? ⟨z+1+1+1+1,j,none⟩:=fun j=>World.cell?_of_block (hb (z+1+1+1+1) (by omega) (by omega))
 exact ⟨(c0 _).trans h.m0,(c0 _).trans h.m1,(c0 _).trans h.m2,(c0 _).trans h.m3,(c1 _).trans h.x0,(c1 _).trans h.x1,(c2 _).trans h.s0,(c2 _).trans h.s1,(c2 _).trans h.s2,(c2 _).trans h.s3,(c2 _).trans h.s4,(c3 _).trans h.a0,(c3 _).trans h.a1,(c3 _).trans h.a2,(c3 _).trans h.a3,(c4 _).trans h.k0,(c4 _).trans h.k1,(c4 _).trans h.k2,(c4 _).trans h.k3,fun j=>(World.frozen?_of_block (hb z (by omega) (by omega))).trans (h.fm j),fun j=>(World.frozen?_of_block (hb (z+1+1+1) (by omega) (by omega))).trans (h.fa j),fun j=>(World.frozen?_of_block (hb (z+1+1+1+1) (by omega) (by omega))).trans (h.fk j),⟨h.bt.1.same (hb z (by omega) (by omega)),h.bt.2.1.same (hb (z+1+1+1) (by omega) (by omega)),by obtain ⟨cs,f,c⟩:=h.bt.2.2;exact ⟨cs,f,(hb (z+1+1+1+1) (by omega) (by omega)).trans c⟩⟩,by omega⟩
theorem boxesM {w V : World} {m0 m1 m2 m3 x0 x1 k0 k1 k2 k3 s0 s1 s2 s3 s4 : Value} {T1 T2 : TypeId}
  (hV:((((w.alloc (.cells #[m0,m1,m2,m3] 40)).alloc (.cells #[x0,x1] T1)).alloc (.cells #[s0,s1,s2,s3,s4] T2)).alloc (.cells #[.slice none 0 0,.slice none 0 0,.slice none 0 0,.slice none 0 0] 40)).alloc (.cells #[k0,k1,k2,k3] 64)=V):
  Bm5 V w.heap.size m0 m1 m2 m3 x0 x1 s0 s1 s2 s3 s4 k0 k1 k2 k3∧Below w.heap.size w V:=by
 subst hV
 refine ⟨⟨?_,?_,?_,?_,?_,?_,?_,?_,?_,?_,?_,?_,?_,?_,?_,?_,?_,?_,?_,fun j=>?_,fun j=>?_,fun j=>?_,⟨?_,?_,?_⟩,?_⟩,((((((Below.refl _ _).alloc (Nat.le_refl _) _).alloc (by simp) _).alloc (by simp;omega) _).alloc (by simp;omega) _).alloc (by simp;omega) _)⟩
 any_goals (simp [go_sem];done)
 ·exact BxT.alloc (BxT.alloc (BxT.alloc (BxT.alloc (BxT.new w _) _) _) _) _
 ·have e:(((w.alloc (.cells #[m0,m1,m2,m3] 40)).alloc (.cells #[x0,x1] T1)).alloc (.cells #[s0,s1,s2,s3,s4] T2)).heap.size=w.heap.size+1+1+1:=by simp
  rw [← e]
  exact BxT.alloc (BxT.new _ _) _
 ·have e:((((w.alloc (.cells #[m0,m1,m2,m3] 40)).alloc (.cells #[x0,x1] T1)).alloc (.cells #[s0,s1,s2,s3,s4] T2)).alloc (.cells #[.slice none 0 0,.slice none 0 0,.slice none 0 0,.slice none 0 0] 40)).heap.size=w.heap.size+1+1+1+1:=by simp
  rw [← e]
  exact ⟨_,_,heap_alloc_new _ _⟩
theorem setCell_same {w:World} {g j:Nat} {v:Value} (h:w.cell? ⟨g,j,none⟩=some v) (b:Nat):(w.setCell ⟨g,j,none⟩ v).heap[b]? =w.heap[b]? :=by
 by_cases e:b=g
 ·subst e
  simp only [World.setCell,Array.getElem?_modify]
  unfold World.cell? at h
  cases hb:w.heap[b]? with
  | none=>simp
  | some o=>
   rw [hb] at h
   cases o with
   | cells cs t f=>
    simp only at h
    simp
    refine Array.ext (by simp) fun i h1 h2=>?_
    by_cases ei:j=i
    ·subst ei
     rw [Array.getElem_setIfInBounds_self]
     have:=(Array.getElem?_eq_some_iff.1 (by simpa using h)).2
     exact this.symm
    ·rw [Array.getElem_setIfInBounds_ne _ ei]
   | _=>simp
 ·exact Below.heap_setCell _ _ _ b e
/- a core's four cells stored, its view another one -/
theorem MQ.put4 {Hq : Nat → Prop} {w F : World} {B g c N : Nat} {vc vm vt r v : Value} {LC : List CV} {LK : List KV} {S : List RS} {d : MD} {i : Nat} {k : KD} (h : MQ w B Hq vc (.slice (some ⟨g, 0, none⟩) N c) vm vt LC LK S d) (hN : LK.length = N) (hx : LK[i]? = some ⟨k, r, v⟩) (u : Value) (l : List Int) (hu : OwnN w B u l) (hf : ∀ q, u.ownBlock = some q → ((∀ (j : Nat) (z : KV), LK[j]? = some z → ¬ (z.r.ownBlock = some q ∨ z.v.ownBlock = some q)) ∧ ∀ a ∈ mAs S, a.block ≠ q) ∧ Hq q)
  (hF:∀ b,b < w.heap.size→F.heap[b]? =((((w.setCell ⟨g,i * 4,none⟩ (.int .i64 k.pc)).setCell ⟨g,i * 4+1,none⟩ r).setCell ⟨g,i * 4+2,none⟩ u).setCell ⟨g,i * 4+3,none⟩ (.int .i64 k.st)).heap[b]?) (hs:w.heap.size≤F.heap.size):
  MQ F B Hq vc (.slice (some ⟨g,0,none⟩) N c) vm vt LC (LK.set i ⟨{ k with vw:=l },r,u⟩) S (putK d i { k with vw:=l }):=by
 subst hN
 have hi:i < LK.length:=(List.getElem?_eq_some_iff.1 hx).1
 obtain ⟨f0,f1,f2,f3⟩:=flatK_at LK i _ hx
 have c0:w.cell? ⟨g,i * 4,none⟩=some (.int .i64 k.pc):=by rw [World.ownsRow.cellAt h.k.row _ (by omega),f0]
 have c1:w.cell? ⟨g,i * 4+1,none⟩=some r:=by rw [World.ownsRow.cellAt h.k.row _ (by omega),f1]
 have c3:w.cell? ⟨g,i * 4+3,none⟩=some (.int .i64 k.st):=by rw [World.ownsRow.cellAt h.k.row _ (by omega),f3]
 refine (MQ.setV h hx u l hu hf).keep (fun b _ hb=>?_) (by simpa using hs)
 rw [hF b (by simpa using hb)]
 have e1:((w.setCell ⟨g,i * 4,none⟩ (.int .i64 k.pc)).setCell ⟨g,i * 4+1,none⟩ r).heap[b]? =w.heap[b]? :=by
  rw [setCell_same ((setC_off (by omega)).trans c1),setCell_same c0]
 refine (setCell_same ?_ b).trans (heap_pair e1)
 exact (setC_off (by omega)).trans ((setC_off (by omega)).trans ((setC_off (by omega)).trans c3))
/- a store into a box of a core's type that is none of the machine's -/
theorem MQ0.offC {w:World} {B b j:Nat} {vc vk vm vt u:Value} {LC:List CV} {LK:List KV} {S:List RS} {d:MD} (h:MQ0 w B vc vk vm vt LC LK S d) (ht:TyB w b 64) (hne:vk.ownBlock≠some b):MQ0 (w.setCell ⟨b,j,none⟩ u) B vc vk vm vt LC LK S d:=by
 have hb:∀ k,k≠b→(w.setCell ⟨b,j,none⟩ u).heap[k]? =w.heap[k]? :=fun k hk=>Below.heap_setCell _ _ _ k hk
 have ne:∀ {e:TypeId} {size n:Nat} {u':Value} {xs:List Value},w.ownsRow B e size u' n xs→e≠64→∀ k,u'.ownBlock=some k→(w.setCell ⟨b,j,none⟩ u).heap[k]? =w.heap[k]? :=fun hu he k hk=>hb k (fun e'=>own_tb hu he ht (by rw [hk,e']))
 refine ⟨⟨ownKeep' h.c.row (ne h.c.row (by decide)),fun i x hx=>ownKeep' (h.c.inn i x hx) (ne (h.c.inn i x hx) (by decide)),h.c.sep⟩,h.ec,⟨ownKeep' h.k.row (fun k hk=>hb k (fun e=>hne (by rw [hk,e]))),fun i x hx=>⟨ownKeep' (h.k.inn i x hx).1 (ne (h.k.inn i x hx).1 (by decide)),ownKeep' (h.k.inn i x hx).2 (ne (h.k.inn i x hx).2 (by decide))⟩,h.k.two,h.k.sep⟩,h.ek,⟨h.m.n,ownKeep' h.m.row (ne h.m.row (by decide)),fun i r l hr hl=>?_,h.m.d⟩,ownKeep' h.t (ne h.t (by decide)),h.sk⟩
 have q:=h.m.r i r l hr hl
 refine q.kept (ne q.own (by decide)) (fun a ha=>hb a.block (fun e=>?_)) (by simp)
 obtain ⟨cs,f,c1⟩:=q.vt a ha
 obtain ⟨cs',f',c2⟩:=ht
 rw [e,c2] at c1
 injection c1 with c1
 injection c1 with _ c1
 exact absurd c1 (by decide)
theorem MQ.offC {Hq:Nat→Prop} {w:World} {B b j:Nat} {vc vk vm vt u:Value} {LC:List CV} {LK:List KV} {S:List RS} {d:MD} (h:MQ w B Hq vc vk vm vt LC LK S d) (ht:TyB w b 64) (hne:vk.ownBlock≠some b):MQ (w.setCell ⟨b,j,none⟩ u) B Hq vc vk vm vt LC LK S d:=⟨h.toMQ0.offC ht hne,h.hh,by simpa using h.hn⟩
theorem TyB.set {w:World} {b g o:Nat} {v:Value} {T:TypeId} (h:TyB w b T):TyB (w.setCell ⟨g,o,none⟩ v) b T:=by
 obtain ⟨cs,f,c⟩:=h
 by_cases e:b=g
 ·subst e
  exact ⟨_,f,heap_set c⟩
 ·exact ⟨cs,f,(Below.heap_setCell _ _ _ b e).trans c⟩
/- a view that a call has made lies apart -/
theorem MQ0.fresh {w w':World} {B:Nat} {vc vk vm vt u:Value} {LC:List CV} {LK:List KV} {S:List RS} {d:MD} {l:List Int} (h:MQ0 w B vc vk vm vt LC LK S d) (hu:OwnN w' w.heap.size u l):∀ q,u.ownBlock=some q→(∀ (j:Nat) (z:KV),LK[j]? =some z→¬ (z.r.ownBlock=some q∨z.v.ownBlock=some q))∧∀ a∈mAs S,a.block≠q:=fun q hq=>by
 have hlt:=(World.ownsRow.lt hu _ hq).1
 refine ⟨fun j z hz hh=>?_,fun a ha e=>?_⟩
 ·rcases hh with hh | hh
  ·have:=(World.ownsRow.lt (h.k.inn j z hz).1 _ hh).2;omega
  ·have:=(World.ownsRow.lt (h.k.inn j z hz).2 _ hh).2;omega
 ·have:=h.m.memblk ha;omega
theorem MQ.fresh {Hq:Nat→Prop} {w w':World} {B:Nat} {vc vk vm vt u:Value} {LC:List CV} {LK:List KV} {S:List RS} {d:MD} {l:List Int} (h:MQ w B Hq vc vk vm vt LC LK S d) (hu:OwnN w' w.heap.size u l):∀ q,u.ownBlock=some q→((∀ (j:Nat) (z:KV),LK[j]? =some z→¬ (z.r.ownBlock=some q∨z.v.ownBlock=some q))∧∀ a∈mAs S,a.block≠q)∧Hq q:=fun q hq=>⟨h.toMQ0.fresh hu q hq,h.hn q (World.ownsRow.lt hu _ hq).1⟩
theorem MQ.re {w w':World} {B:Nat} {Hq:Nat→Prop} {vc vk vm vt:Value} {LC:List CV} {LK:List KV} {S:List RS} {d:MD} (h:MQ w B Hq vc vk vm vt LC LK S d) (hb:∀ k,B≤k→k < w.heap.size→w'.heap[k]? =w.heap[k]?) (hs:w.heap.size≤w'.heap.size):MQ w' B (fun q=>(q < w.heap.size∧Hq q)∨w'.heap.size≤q) vc vk vm vt LC LK S d:=
 ⟨h.toMQ0.keep hb hs,⟨fun q e=>.inl ⟨(World.ownsRow.lt h.c.row q e).2,h.hh.c q e⟩,fun i x q hx e=>.inl ⟨(World.ownsRow.lt (h.c.inn i x hx) q e).2,h.hh.ci i x q hx e⟩,fun q e=>.inl ⟨(World.ownsRow.lt h.k.row q e).2,h.hh.k q e⟩,fun i x q hx e=>.inl ⟨e.elim (fun e=>(World.ownsRow.lt (h.k.inn i x hx).1 q e).2) (fun e=>(World.ownsRow.lt (h.k.inn i x hx).2 q e).2),h.hh.ki i x q hx e⟩,fun q e=>.inl ⟨(World.ownsRow.lt h.m.row q e).2,h.hh.m q e⟩,fun a ha=>.inl ⟨h.m.memblk ha,h.hh.mi a ha⟩,fun q e=>.inl ⟨(World.ownsRow.lt h.t q e).2,h.hh.t q e⟩⟩,fun q hq=>.inr hq⟩
theorem MQ.wk {w:World} {B:Nat} {Hq H2:Nat→Prop} {vc vk vm vt:Value} {LC:List CV} {LK:List KV} {S:List RS} {d:MD} (h:MQ w B Hq vc vk vm vt LC LK S d) (hw:∀ q,Hq q→H2 q):MQ w B H2 vc vk vm vt LC LK S d:=
 ⟨h.toMQ0,⟨fun q e=>hw q (h.hh.c q e),fun i x q hx e=>hw q (h.hh.ci i x q hx e),fun q e=>hw q (h.hh.k q e),fun i x q hx e=>hw q (h.hh.ki i x q hx e),fun q e=>hw q (h.hh.m q e),fun a ha=>hw _ (h.hh.mi a ha),fun q e=>hw q (h.hh.t q e)⟩,fun q hq=>hw q (h.hn q hq)⟩
theorem MQ.rowH {w:World} {B:Nat} {Hq:Nat→Prop} {vc vk vm vt:Value} {LC:List CV} {LK:List KV} {S:List RS} {d:MD} {i:Nat} {r:RS} (h:MQ w B Hq vc vk vm vt LC LK S d) (hr:S[i]? =some r) (h0:0 < r.vs.length) (q:Nat) (e:r.val.ownBlock=some q):Hq q:=by
 have hs:∃ o sp,r.s=some ⟨q,o,sp⟩:=by
  unfold RS.val at e
  cases hh:r.s with
  | none=>rw [hh] at e;simp [Value.ownBlock] at e
  | some a=>
   rw [hh] at e
   simp [Value.ownBlock] at e
   obtain ⟨g,o,sp⟩:=a
   simp at e
   subst e
   exact ⟨o,sp,rfl⟩
 obtain ⟨o,sp,hs⟩:=hs
 have hm:=h.hh.mi (adr r.s (0 * 2)) (mem_mAs.2 ⟨r,List.mem_of_getElem? hr,mem_rAs.2 (.inl ⟨0,h0,by simp⟩)⟩)
 rw [hs] at hm
 exact hm
theorem hidM {p:Prop} (h:p):Hid p:=h
/- what a step of memory answers -/
def MemP (w:World) (B:Nat) (Hq:Nat→Prop) (vc vk vm vt:Value) (LC:List CV) (LK:List KV) (S:List RS) (d:MD) (who:Nat) (late:Int) (k:KD) (s:I5) (e:Ending) (w':World):Prop:=
 if 0≤cellM k s∧cellM k s≤23 then
  (if s.o≠5∧(d.mem.getD (cellM k s).toNat []).length=4000 then e=.returned (.tuple #[.agg #[vc,vk,vm,vt],.bool true,.bool true])∧Below w.heap.size w w'
   else ∃ LK' S' r u,e=.returned (.tuple #[.agg #[vc,vk,vm,vt],.bool true,.bool false])∧MQ w' B Hq vc vk vm vt LC LK' S' (putK (memS d late k s (cellM k s).toNat).1 who (memS d late k s (cellM k s).toNat).2)∧LK'[who]? =some ⟨(memS d late k s (cellM k s).toNat).2,r,u⟩∧LK'.length=LK.length∧Below B w w'∧∀ b,¬ Hq b→w'.heap[b]? =w.heap[b]?)
 else e=.returned (.tuple #[.agg #[vc,vk,vm,vt],.bool false,.bool false])∧Below w.heap.size w w'
theorem OW.cellc {w:World} {B g n c k:Nat} {S:List RS} {m:List (List WD)} {r:RS} {lr:List WD} (h:OW w B (.slice (some ⟨g,0,none⟩) n c) S m) (hn:n=m.length) (hk:S[k]? =some r) (hl:m[k]? =some lr):w.cell? ⟨g,k,none⟩=some (.slice r.s lr.length r.c):=by
 have hr:=h.row
 rw [h.n,← hn] at hr
 have hlt:=(List.getElem?_eq_some_iff.1 hl).1
 have q:=(h.r k r lr hk hl).n
 rw [World.ownsRow.cellAt hr k (by omega),List.getElem?_map,hk]
 show some (Value.slice r.s r.vs.length r.c)=_
 rw [q]
theorem OW.memw {w:World} {B:Nat} {v:Value} {S:List RS} {m:List (List WD)} (h:OW w B v S m):∃ s c,v=.slice s m.length c∧MemR w B w.heap.size s m:=by
 obtain ⟨s,c,rfl,hm⟩:=h.om.mo
 exact ⟨s,c,rfl,hm.mem⟩
theorem OW.some_ {w:World} {B:Nat} {v:Value} {S:List RS} {m:List (List WD)} (h:OW w B v S m) (hm:memB m=true):∀ (i:Nat) (r:RS),S[i]? =some r→0 < r.vs.length:=fun i r hr=>by
 have hi:=(List.getElem?_eq_some_iff.1 hr).1
 have h24:=(memB_at hm (i:=0) (by omega)).1
 have hn:=h.n
 obtain ⟨-,l,hl,-,h1,-⟩:=memB_at hm (i:=i) (by omega)
 have q:=(h.r i r l hr hl).n
 omega
theorem ldW_eq (m:List (List WD)) (l:List Int) (c:Nat) (late:Int) (hold:Bool):(if hold=true then joinL (l.set c (ldJ m l c late)) (ldX m l c late).vw else l.set c (ldJ m l c late))=ldW m l c late hold:=rfl
end
section
set_option linter.unusedSimpArgs false
set_option linter.unusedVariables false
set_option maxRecDepth 100000
open Go.RowKit
theorem write_no {w : World} {R bm gk gc gs gr gv who nn cv cr cs gO nO cO c m cc1 : Nat} {s : Option Addr} {late : Int} {vc vk vt : Value} {nc cc : Nat} {pc st : Int} (z : Int) (b : Bool) (h : Rn w R bm gk gc gs gr gv who nn cv cr cs late vc vk (.slice (some ⟨gO, 0, none⟩) nO cO) vt nc cc pc st) (hc : w.cell? ⟨gO, c, none⟩ = some (.slice s m cc1)) (hz : gO < w.heap.size) (hn : c < nO) (hf : ¬ m < 4000) :
  Calls Tryz.prog 121 #[.pointer (some ⟨R,0,none⟩),.int .i64 c,.int .i64 z,.bool b] w fun e w'=>e=.returned (.bool false)∧Below w.heap.size w w':=by
 obtain ⟨r0,r1,r2,r3,r4,m0,m1,m2,m3,fm,ec,c0,k0,k1,k3,fk,wc,zR,zm,zk,zc,zr⟩:=h
 have HR:=hidM1 (hasRoom_c (n:=nO) (cO:=cO) false hc hz hn (by simp;omega))
 go_enter Tryz.func121,Tryz.ntmps121
 go_wp2_with (go_at_call 126;refine Calls.mono HR.out ?_;rintro e w1 ⟨rfl,hb1⟩;have HB1:=hidM1 hb1;clear hb1)
 go_ret
 exact ⟨rfl,HB1.out⟩
set_option maxHeartbeats 2000000 in
theorem write_yes {Hq : Nat → Prop} {w : World} {B R bm gk gc gs gr gv who nn cv cr cs gO cO : Nat} {late : Int} {vc vk vt rv : Value} {nc cc : Nat} {pc st : Int} {LC : List CV} {LK : List KV} {S : List RS} {d : MD} {k : KD} (c : Nat) (lr : List WD) (r : RS) (z : Int) (b : Bool) (h : Rn w R bm gk gc gs gr gv who nn cv cr cs late vc vk (.slice (some ⟨gO, 0, none⟩) d.mem.length cO) vt nc cc pc st) (hq : MQ w B Hq vc vk (.slice (some ⟨gO, 0, none⟩) d.mem.length cO) vt LC LK S d) (hx : LK[who]? = some ⟨k, rv, .slice (some ⟨gv, 0, none⟩) 24 cv⟩) (hvl : k.vw.length = 24) (hmem : memB d.mem = true) (hc : c < 24) (hlr : d.mem[c]? = some lr) (hr : S[c]? = some r) (hroom : lr.length < 4000) :
  Calls Tryz.prog 121 #[.pointer (some ⟨R,0,none⟩),.int .i64 c,.int .i64 z,.bool b] w fun e w'=>e=.returned (.bool true)∧∃ r',MQ w' B Hq vc vk (.slice (some ⟨gO,0,none⟩) d.mem.length cO) vt LC (LK.set who ⟨{ k with vw:=k.vw.set c (lr.length:Int) },rv,.slice (some ⟨gv,0,none⟩) 24 cv⟩) (S.set c r') { putK d who { k with vw:=k.vw.set c (lr.length:Int) } with mem:=d.mem.set c (lr++[⟨z,toldL k.vw c lr.length b⟩]) }∧Below B w w'∧∀ b',b' < w.heap.size→b'≠gv→b'≠gO→r.val.ownBlock≠some b'→w'.heap[b']? =w.heap[b']? :=by
 have H:=hidM1 h
 have HQ:=hidM1 hq
 have HX:=hidM1 hx
 have HVL:=hidM1 hvl
 have HME:=hidM1 hmem
 have HLR:=hidM1 hlr
 have HRR:=hidM1 hr
 have h24:=(memB_at hmem (i:=0) (by omega)).1
 have H24:=hidM1 h24
 have lO:=hq.m.cellc rfl hr hlr
 have zO:gO < w.heap.size:=(World.ownsRow.lt hq.m.row gO rfl).2
 have HR:=hidM1 (hasRoom_c (n:=d.mem.length) (cO:=cO) true lO zO (by omega) (by simp;omega))
 obtain ⟨r0,r1,r2,r3,r4,m0,m1,m2,m3,fm,ec,c0,k0,k1,k3,fk,wc,zR,zm,zk,zc,zr⟩:=h
 clear hq hx hvl hmem hlr hr h24 lO
 go_enter Tryz.func121,Tryz.ntmps121
 go_wp2_with (go_at_call 126;refine Calls.mono HR.out ?_;rintro e w1 ⟨rfl,hb1⟩;have HB1:=hidM1 hb1;clear hb1)
 have hb1:=HB1.out
 have z1:=hb1.size
 have hne:=ext_ne w1
 have u0:=Ext.fit ((hb1.cell (p:=⟨R,0,none⟩) zR).trans r0) (by omega)
 have u1:=Ext.fit ((hb1.cell (p:=⟨R,2,none⟩) zR).trans r2) (by omega)
 have u2:=Ext.fit ((hb1.cell (p:=⟨bm,2,none⟩) zm).trans m2) (by omega)
 refine regionSuf w1 14 (by kernel_rfl) (by kernel_rfl) (by kernel_rfl) (by kernel_rfl) (by kernel_rfl) ?_
 dsimp only [List.take,List.drop]
 repeat (go_big_quiet_step (fail))
 refine wpQuiet_nil ?_
 rintro w3 ⟨X3,rfl⟩
 obtain ⟨V,hV⟩:∃ V,X3.w=V:=⟨_,rfl⟩
 have hb3:=X3.b
 rw [hV] at hb3 ⊢
 have KV:Hid (Below w.heap.size w V):=hb1.trans (hb3.mono z1)
 have zV:=KV.out.size
 have QV:=hidM1 (HQ.out.keep (w':=V) (fun b _ h1=>KV.out.block b h1) zV)
 have hvn:=(QV.out.k.inn who _ HX.out).2
 have hvn':OwnN V B (.slice (some ⟨gv,0,none⟩) k.vw.length cv) k.vw:=by rw [HVL.out];exact hvn
 have SA:=store_any gO cO B B gv cv S d.mem r lr k.vw c z b V hvn' QV.out.m (QV.out.m.some_ HME.out) HRR.out HLR.out HVL.out hc H24.out (by omega) (World.ownsRow.lt hvn gv rfl).1 (fun a ha=>QV.out.sk who _ gv HX.out (.inr rfl) a ha)
 rw [HVL.out] at SA
 have HS:=hidM1 SA
 clear hne u0 u1 u2 hb1 z1 hb3 hV X3 hvn hvn' SA
 go_wp2_with (go_at_call 127;refine Calls.mono HS.out ?_;rintro e w5 ⟨rfl,r',hO5,hM5,hb5,hs5,hf5,hp5⟩;have HO5:=hidM1 hO5;have HM5:=hidM1 hM5;have HB5:=hidM1 hb5;have HF5:=hidM1 hf5;have HP5:=hidM1 hp5;clear hO5 hM5 hb5 hs5 hf5 hp5)
 go_ret
 refine ⟨rfl,r',?_,(KV.out.mono ?_).trans HB5.out,fun b' h1 h2 h3 h4=>(HF5.out b' (by omega) h2 h3 h4).trans (KV.out.block b' h1)⟩
 ·refine MQ.view (g:=gv) QV.out HX.out rfl HO5.out HM5.out (fun hu h1 h2 hn q hq=>HF5.out q (World.ownsRow.lt hu _ hq).2 (fun e=>hn (by rw [hq,e])) (fun e=>ownType' hu QV.out.m.row h2 hq (by rw [e];rfl)) (ownType' hu (QV.out.m.r c r lr HRR.out HLR.out).own h1 hq)) HP5.out HB5.out.size
 ·have:=(World.ownsRow.lt HQ.out.m.row gO rfl).1
  omega
end
end Go.Proofs.YtepfpbcjklaenaaGreat
