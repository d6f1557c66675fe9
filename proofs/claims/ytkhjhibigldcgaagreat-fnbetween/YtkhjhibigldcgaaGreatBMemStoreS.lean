/- Store's last step in the specification: l6Store. Conditions: what is right. -/
import Derived.Test.YtkhjhibigldcgaaGreatBG00
import Derived.Test.YtkhjhibigldcgaaGreatBG04
import Derived.Test.YtkhjhibigldcgaaGreatBG08
import Derived.Test.YtkhjhibigldcgaaGreatBG07
import Derived.Test.YtkhjhibigldcgaaGreatBG01
import Derived.Test.YtkhjhibigldcgaaGreatBG09
namespace Go.Proofs.YtkhjhibigldcgaaGreat
set_option linter.unusedSimpArgs false
set_option linter.unusedVariables false
set_option maxRecDepth 100000
open Go.RowKit
theorem l6Fin {w W W0 X w6 : World} {B gO cO g5 c5 g6 c6 k n n5 ct nl : Nat} {S : List RS} {m : List (List WD)} {r : RS} {lr : List WD} {st : Option Addr} {told lv : List Int} {z : Int} (hB : B ≤ w.heap.size) (hne : ∀ (i : Nat) (r : RS), S[i]? = some r → 0 < r.vs.length) (hk : S[k]? = some r) (hlm : m[k]? = some lr) (hrv : r.vs.length = lr.length) (valB : (Value.slice r.s lr.length r.c).ownBlock = r.val.ownBlock) (RB : ∀ b, r.val.ownBlock = some b → b < w.heap.size) (hgO : B ≤ gO ∧ gO < w.heap.size) (HMb : ∀ a ∈ mAs S, a.block < w.heap.size)
  (KW:Below w.heap.size w W) (KW0:Below (w.heap.size+2) W W0) (q9:w.heap.size+2≤g5∧g5 < n5) (hsz:W0.heap.size=n5) (HM0:OW W0 B (.slice (some ⟨gO,0,none⟩) m.length cO) S m) (KX:Below W0.heap.size W0 X) (TX:OwnN X W0.heap.size (.slice st n ct) told) (hn:n=told.length) (OVX:OwnN X (w.heap.size+2) (.slice (some ⟨g5,0,none⟩) nl c5) lv)
  (HO6:w6.ownsRow B 100 2 (.slice (some ⟨g6,0,none⟩) (lr.length+1) c6) (lr.length+1) (flatV r.vs lr++[.int .i64 z,.slice st n ct])) (HG6:(X.drew.alloc (.cells #[.int .i64 z,.slice st n ct] 100)).grownBy w6 (Value.slice r.s lr.length r.c).ownBlock) (HN6:(Value.slice r.s lr.length r.c).ownBlock=some g6∨(X.drew.alloc (.cells #[.int .i64 z,.slice st n ct] 100)).heap.size≤g6):
  OwnN ((w6.setCell ⟨gO,k,none⟩ (.slice (some ⟨g6,0,none⟩) (lr.length+1) c6)).setCell ⟨w.heap.size+1,0,none⟩ (.slice (some ⟨gO,0,none⟩) m.length cO)) w.heap.size (.slice (some ⟨g5,0,none⟩) nl c5) lv∧OW ((w6.setCell ⟨gO,k,none⟩ (.slice (some ⟨g6,0,none⟩) (lr.length+1) c6)).setCell ⟨w.heap.size+1,0,none⟩ (.slice (some ⟨gO,0,none⟩) m.length cO)) B (.slice (some ⟨gO,0,none⟩) m.length cO) (S.set k ⟨some ⟨g6,0,none⟩,c6,r.vs++[⟨st,n,ct⟩]⟩) (m.set k (lr++[⟨z,told⟩]))∧Below B w ((w6.setCell ⟨gO,k,none⟩ (.slice (some ⟨g6,0,none⟩) (lr.length+1) c6)).setCell ⟨w.heap.size+1,0,none⟩ (.slice (some ⟨gO,0,none⟩) m.length cO))∧(∀ b,b < w.heap.size→b≠gO→r.val.ownBlock≠some b→((w6.setCell ⟨gO,k,none⟩ (.slice (some ⟨g6,0,none⟩) (lr.length+1) c6)).setCell ⟨w.heap.size+1,0,none⟩ (.slice (some ⟨gO,0,none⟩) m.length cO)).heap[b]? =w.heap[b]?)∧(∀ a∈mAs (S.set k ⟨some ⟨g6,0,none⟩,c6,r.vs++[⟨st,n,ct⟩]⟩),(∃ a'∈mAs S,a'.block=a.block)∨w.heap.size≤a.block)∧(∀ a∈mAs (S.set k ⟨some ⟨g6,0,none⟩,c6,r.vs++[⟨st,n,ct⟩]⟩),a.block≠g5):=by
 obtain ⟨v1,v2,v3,v4⟩:=ownV TX hn
 have zX:=KX.size
 have al:Below X.heap.size X (X.drew.alloc (.cells #[.int .i64 z,.slice st n ct] 100)):=(Below.drew (Below.refl _ _)).alloc (Nat.le_refl _) _
 have hP:=HM0.setRow (w1:=X.drew.alloc (.cells #[.int .i64 z,.slice st n ct] 100)) (w2:=w6) (g:=g6) (cap:=c6) ⟨st,n,ct⟩ ⟨z,told⟩ (KX.trans (al.mono zX)) (by omega) hne hk hlm ((v1.keep (Keep.of_below al (Nat.le_refl _))).mono (Nat.le_refl _) al.size) (fun a ha=>by obtain ⟨cs,f,e⟩:=v2 a ha;exact ⟨cs,f,(al.block _ (v1.blk ha).2).trans e⟩) v3 (by rw [hrv];exact HO6) (by rw [← valB];exact HG6) (by rw [← valB];exact HN6)
 rw [hrv] at hP
 have own0:=((HM0.below KX).r k r lr hk hlm).own
 have hBl:Below B w w6:=(((KW.mono hB).trans (KW0.mono (by omega))).trans (KX.mono (by omega))).trans (Below.grown (al.mono (by omega)) HG6 (by simp;omega) (fun j hj=>(World.ownsRow.lt own0 j (by rw [← valB];exact hj)).1))
 refine ⟨?_,?_,?_,?_,?_,?_⟩
 ·refine ownKeep' (ownLow' OVX (by omega)) (fun b e=>?_)
  have e9:some g5=some b:=e
  injection e9 with e9
  subst e9
  rw [Below.heap_setCell _ _ _ _ (by show g5≠w.heap.size+1;omega),Below.heap_setCell _ _ _ _ (by show g5≠gO;omega)]
  exact (HG6.block g5 (by simp;omega) (fun e=>absurd (RB g5 (by rw [← valB];exact e.symm)) (by omega))).trans (show _=X.heap[g5]? from Below.heap_alloc X.drew _ _ (by show g5 < X.heap.size;omega))
 ·refine hP.far (g:=w.heap.size+1) (fun i r1 hr1=>?_) (fun e=>by have e:some gO=some (w.heap.size+1):=e;injection e with e;omega) (fun a ha=>?_) (fun b _ h1=>Below.heap_setCell _ _ _ b h1) (by simp)
  ·by_cases hik:k=i
   ·subst hik
    rw [List.getElem?_set_self (List.getElem?_eq_some_iff.1 hk).1] at hr1
    injection hr1 with hr1
    subst hr1
    simp
   ·rw [List.getElem?_set_ne hik] at hr1
    exact hne i r1 hr1
  ·obtain ⟨r1,hr1,har⟩:=mem_mAs.1 ha
   rcases List.mem_or_eq_of_mem_set hr1 with hr1 | hr1
   ·have:=HMb a (mem_mAs.2 ⟨r1,hr1,har⟩)
    omega
   ·subst hr1
    rcases mem_rAs.1 har with ⟨i,hi',e⟩ | ⟨x',hx',hax⟩
    ·have eb:a.block=g6:=by rw [e];rfl
     rcases HN6 with hn | hn
     ·have:=RB g6 (by rw [← valB];exact hn)
      omega
     ·simp at hn
      have hn2:X.heap.size+1≤g6:=hn
      omega
    ·rcases List.mem_append.1 hx' with hx' | hx'
     ·have:=HMb a (mem_mAs.2 ⟨r,List.mem_of_getElem? hk,mem_rAs.2 (.inr ⟨x',hx',hax⟩)⟩)
      omega
     ·simp at hx'
      subst hx'
      have:=v4 a hax
      omega
 ·exact (hBl.setCell (p:=⟨gO,k,none⟩) hgO.1 _).setCell (p:=⟨w.heap.size+1,0,none⟩) (by show B≤w.heap.size+1;omega) _
 ·intro b hb h1 h2
  rw [Below.heap_setCell _ _ _ _ (by show b≠w.heap.size+1;omega),Below.heap_setCell _ _ _ _ (by show b≠gO;exact h1)]
  have zK:=KW.size
  have zK0:=KW0.size
  exact (HG6.block b (by simp;omega) (fun e=>h2 (by rw [← valB];exact e.symm))).trans ((show _=X.heap[b]? from Below.heap_alloc X.drew _ _ (by show b < X.heap.size;omega)).trans ((KX.block b (by omega)).trans ((KW0.block b (by omega)).trans (KW.block b hb))))
 ·intro a ha
  obtain ⟨r1,hr1,har⟩:=mem_mAs.1 ha
  rcases List.mem_or_eq_of_mem_set hr1 with hr1 | hr1
  ·exact .inl ⟨a,mem_mAs.2 ⟨r1,hr1,har⟩,rfl⟩
  ·subst hr1
   rcases mem_rAs.1 har with ⟨i,hi',e⟩ | ⟨x',hx',hax⟩
   ·have eb:a.block=g6:=by rw [e];rfl
    rcases HN6 with hn | hn
    ·refine .inl ⟨adr r.s ((0+0) * 2),mem_mAs.2 ⟨r,List.mem_of_getElem? hk,mem_rAs.2 (.inl ⟨0,hne k r hk,rfl⟩)⟩,?_⟩
     rw [eb]
     cases hs:r.s with
     | none=>rw [hs] at hn;cases hn
     | some p=>rw [hs] at hn;injection hn
    ·simp at hn
     have hn2:X.heap.size+1≤g6:=hn
     exact .inr (by omega)
   ·rcases List.mem_append.1 hx' with hx' | hx'
    ·exact .inl ⟨a,mem_mAs.2 ⟨r,List.mem_of_getElem? hk,mem_rAs.2 (.inr ⟨x',hx',hax⟩)⟩,rfl⟩
    ·simp at hx'
     subst hx'
     have:=v4 a hax
     exact .inr (by omega)
 ·intro a ha
  obtain ⟨r1,hr1,har⟩:=mem_mAs.1 ha
  rcases List.mem_or_eq_of_mem_set hr1 with hr1 | hr1
  ·have:=HMb a (mem_mAs.2 ⟨r1,hr1,har⟩)
   omega
  ·subst hr1
   rcases mem_rAs.1 har with ⟨i,hi',e⟩ | ⟨x',hx',hax⟩
   ·have eb:a.block=g6:=by rw [e];rfl
    rcases HN6 with hn | hn
    ·have:=RB g6 (by rw [← valB];exact hn)
     omega
    ·simp at hn
     have hn2:X.heap.size+1≤g6:=hn
     omega
   ·rcases List.mem_append.1 hx' with hx' | hx'
    ·have:=HMb a (mem_mAs.2 ⟨r,List.mem_of_getElem? hk,mem_rAs.2 (.inr ⟨x',hx',hax⟩)⟩)
     omega
    ·simp at hx'
     subst hx'
     have:=v4 a hax
     omega
set_option maxHeartbeats 16000000 in
theorem l6Store_any (gO cO B : Nat) (S : List RS) (m : List (List WD)) (r : RS) (lr : List WD) (s' : Option Addr) (c' lo' hi' : Nat) (l : List Int) (k : Nat) (z : Int) (b : Bool) (w : World) (h' : IntsR w lo' hi' s' l) (hB' : hi' ≤ w.heap.size) (hM : OW w B (.slice (some ⟨gO, 0, none⟩) m.length cO) S m) (hne : ∀ (i : Nat) (r : RS), S[i]? = some r → 0 < r.vs.length)
  (hk:S[k]? =some r) (hlm:m[k]? =some lr) (hl:l.length=24) (hkl:k < 24) (hml:m.length=24) (hlr:lr.length≤4000) (hB:B≤w.heap.size):
  Calls Tryz.prog 58 #[.agg #[.slice (some ⟨gO,0,none⟩) m.length cO],.slice s' l.length c',.int .i64 k,.int .i64 z,.bool b] w fun e w'=>∃ v r',e=.returned (.tuple #[.agg #[.slice (some ⟨gO,0,none⟩) m.length cO],v])∧OwnN w' w.heap.size v (l.set k (lr.length:Int))∧OW w' B (.slice (some ⟨gO,0,none⟩) m.length cO) (S.set k r') (m.set k (lr++[⟨z,toldL l k lr.length b⟩]))∧Below B w w'∧(∀ b',b' < w.heap.size→b'≠gO→r.val.ownBlock≠some b'→w'.heap[b']? =w.heap[b']?)∧(∀ a∈mAs (S.set k r'),(∃ a'∈mAs S,a'.block=a.block)∨w.heap.size≤a.block)∧(∀ a∈mAs (S.set k r'),v.ownBlock≠some a.block):=by
 have hrow:=hM.row
 rw [hM.n] at hrow
 have hgO:=World.ownsRow.lt hrow gO rfl
 have q:=hM.r k r lr hk hlm
 have hrv:r.vs.length=lr.length:=q.n
 have c1:w.cell? ⟨gO,k,none⟩=some (.slice r.s lr.length r.c):=by
  rw [World.ownsRow.cellAt hrow k (by omega),List.getElem?_map,hk]
  simp [RS.val,hrv]
 have f1:∀ j,w.frozen? ⟨gO,j,none⟩=false:=fun j=>World.ownsRow.frozenAt hrow j
 have HI:Hid (IntsR w lo' hi' s' l):=h'
 have HM:Hid (OW w B (.slice (some ⟨gO,0,none⟩) m.length cO) S m):=hM
 have HLL:Hid (l.length=24):=hl
 have HML:Hid (m.length=24):=hml
 have B0:(0:Int)≤(k:Int):=by omega
 have B1:(k:Int) < (l.length:Int):=by omega
 have B2:(k:Int) < (m.length:Int):=by omega
 have B3:(k:Int) < 24:=by omega
 have hl2:l.length≤1048577:=by omega
 have hl3:0 < l.length:=by omega
 have hkl2:k < l.length:=by omega
 have hmk:∀ w:World,(Instr.makeSlice 24 (.int .i64 24) (.int .i64 24)).run Tryz.prog w=.ok (.slice (some ⟨w.heap.size,0,none⟩) 24 24) (w.alloc (.cells (madeCells #[.int .i64 0] 24) 3)):=fun w=>mkInt 24 (by omega) w
 have valB:(Value.slice r.s lr.length r.c).ownBlock=r.val.ownBlock:=by unfold RS.val;cases r.s<;>rfl
 have RB:Hid (∀ b,r.val.ownBlock=some b→b < w.heap.size):=fun b e=>(World.ownsRow.lt q.own _ e).2
 clear h' hM hrow q hl hml
 go_enter Tryz.func58,Tryz.ntmps58
 obtain ⟨W,hW⟩:∃ W,(w.alloc (.cells #[.slice (some ⟨gO,0,none⟩) m.length cO] 32)).alloc (.cells #[.slice none 0 0] 32)=W:=⟨_,rfl⟩
 have HW:Hid ((w.alloc (.cells #[.slice (some ⟨gO,0,none⟩) m.length cO] 32)).alloc (.cells #[.slice none 0 0] 32)=W):=hW
 have KW:Hid (Below w.heap.size w W):=by subst hW;exact ((Below.refl _ _).alloc (Nat.le_refl _) _).alloc (by simp) _
 have sW:W.heap.size=w.heap.size+2:=by subst hW;simp
 have SW:Hid (W.heap.size=w.heap.size+2):=sW
 have HI1:Hid (IntsR (((w.alloc (.cells #[.slice (some ⟨gO,0,none⟩) m.length cO] 32)).alloc (.cells #[.slice none 0 0] 32)).alloc (.cells #[] 3)) lo' hi' s' l):=HI.out.keep (Keep.of_below ((((Below.refl _ _).alloc (Nat.le_refl _) _).alloc (by simp) _).alloc (by simp;omega) _) hB')
 clear hW sW
 go_wp2_with (at_builtin;refine app_copyI rfl _ _ rfl rfl _ (w.heap.size+2) (some ⟨w.heap.size+1+1,0,none⟩) 0 rfl (by have h9:=ownN_empty (w:=(w.alloc (.cells #[.slice (some ⟨gO,0,none⟩) m.length cO] 32)).alloc (.cells #[.slice none 0 0] 32)) (base:=w.heap.size+2) (by simp);simpa using h9) s' c' l rfl HI1.out (by omega) (by simp) ?_;intro s5 c5 w5 ho5 hc5;obtain ⟨g5,cap5,e5,-⟩:=World.ownsRow.form ho5 hl3;injection e5 with e51 e52 e53;subst e51;have hb5:Below (w.heap.size+2) ((w.alloc (.cells #[.slice (some ⟨gO,0,none⟩) m.length cO] 32)).alloc (.cells #[.slice none 0 0] 32)) w5:=((Below.refl _ _).alloc (by simp) _).trans hc5.low;rw [HW.out] at hb5;have t0:w5.cell? ⟨w.heap.size,0,none⟩=some (.slice (some ⟨gO,0,none⟩) m.length cO):=(hb5.cell (p:=⟨w.heap.size,0,none⟩) (show w.heap.size < w.heap.size+2 by omega)).trans (by rw [← HW.out];simp [go_sem]);have t1:=(hb5.cell (p:=⟨gO,k,none⟩) (show gO < w.heap.size+2 by omega)).trans ((KW.out.cell (p:=⟨gO,k,none⟩) hgO.2).trans c1);have t2:w5.cell? ⟨g5,k,none⟩=some (.int .i64 (l.getD k 0)):=ho5.cell hkl2;have t3:∀ j,w5.frozen? ⟨g5,j,none⟩=false:=(fun j=>World.ownsRow.frozenAt ho5 j);have q9:=World.ownsRow.lt ho5 g5 rfl;have n1:¬ g5=w.heap.size:=(by omega);have n2:¬ g5=gO:=(by omega);have n3:¬ w.heap.size=g5:=(by omega);have n4:¬ gO=g5:=(by omega);have HO5:Hid (OwnN w5 (w.heap.size+2) (.slice (some ⟨g5,0,none⟩) l.length c5) l):=ho5;have HB5:Hid (Below (w.heap.size+2) W w5):=hb5;clear ho5 hc5 hb5 e53)
 obtain ⟨W0,hW0⟩:∃ W0,w5.setCell ⟨g5,k,none⟩ (.int .i64 lr.length)=W0:=⟨_,rfl⟩
 have s0:W0.heap.size=w5.heap.size:=by subst hW0;simp
 have OV0:Hid (OwnN W0 (w.heap.size+2) (.slice (some ⟨g5,0,none⟩) l.length c5) (l.set k (lr.length:Int))):=by
  subst hW0
  have p5:=(World.ownsRow.stored HO5.out k (.int .i64 lr.length)).1
  show OwnN _ _ _ _
  unfold OwnN
  rw [List.map_set,List.length_set]
  exact p5
 have KW0:Hid (Below (w.heap.size+2) W W0):=by subst hW0;exact HB5.out.setCell (p:=⟨g5,k,none⟩) q9.1 _
 have SW0:Hid (W0.heap.size=w5.heap.size):=s0
 have y0:w5.cell? ⟨w.heap.size,0,none⟩=some (.slice (some ⟨gO,0,none⟩) m.length cO):=t0
 obtain ⟨Y,hY⟩:∃ Y,(W0.alloc (.cells (madeCells #[.int .i64 0] 24) 3)).alloc (.cells #[.int .i64 z,.slice (some ⟨w5.heap.size,0,none⟩) 24 24] 100)=Y:=⟨_,rfl⟩
 have KY:Below W0.heap.size W0 Y:=by subst hY;exact ((Below.refl _ _).alloc (Nat.le_refl _) _).alloc (by simp) _
 have sY:Y.heap.size=w5.heap.size+2:=by subst hY;simp [s0]
 have a0:Y.cell? ⟨w5.heap.size+1,0,none⟩=some (.int .i64 z):=by subst hY;rw [← s0];simp [go_sem]
 have a1:Y.cell? ⟨w5.heap.size+1,1,none⟩=some (.slice (some ⟨w5.heap.size,0,none⟩) 24 24):=by subst hY;rw [← s0];simp [go_sem]
 have a2:Y.cell? ⟨g5,k,none⟩=some (.int .i64 lr.length):=(KY.cell (p:=⟨g5,k,none⟩) (by show g5 < _;omega)).trans (by subst hW0;exact setC_at (by rw [t2];rfl))
 have TY0:OwnN Y W0.heap.size (.slice (some ⟨w5.heap.size,0,none⟩) 24 24) (List.replicate 24 0):=by
  subst hY
  have h0:=World.ownsRow_lit (base:=W0.heap.size) (e:=3) (size:=1) W0 (madeCells #[.int .i64 0] 24) 24 (Nat.le_refl _) (by unfold maxLen;omega) (by rw [size_madeCells])
  rw [toList_madeCells_one,s0] at h0
  have h1:=World.ownsRow.alloc h0 (.cells #[.int .i64 z,.slice (some ⟨w5.heap.size,0,none⟩) 24 24] 100)
  unfold OwnN
  rw [List.map_replicate,List.length_replicate,s0]
  exact h1
 have a3:Y.cell? ⟨w5.heap.size,k,none⟩=some (.int .i64 0):=by
  have:=TY0.cell (i:=k) (by simp;omega)
  rw [this,List.getD_eq_getElem?_getD,List.getElem?_replicate,if_pos hkl]
  rfl
 have a4:∀ j,Y.frozen? ⟨w5.heap.size,j,none⟩=false:=fun j=>World.ownsRow.frozenAt TY0 j
 have a5:∀ j,Y.frozen? ⟨w5.heap.size+1,j,none⟩=false:=fun j=>by subst hY;rw [← s0];simp [go_sem]
 have HTY:Hid (OwnN Y W0.heap.size (.slice (some ⟨w5.heap.size,0,none⟩) 24 24) (List.replicate 24 0)):=TY0
 have HKY:Hid (Below W0.heap.size W0 Y):=KY
 have b0:Y.cell? ⟨w.heap.size,0,none⟩=some (.slice (some ⟨gO,0,none⟩) m.length cO):=(KY.cell (p:=⟨w.heap.size,0,none⟩) (by show w.heap.size < _;omega)).trans (by subst hW0;rw [setC_blk (by omega)];exact t0)
 have b1:Y.cell? ⟨gO,k,none⟩=some (.slice r.s lr.length r.c):=(KY.cell (p:=⟨gO,k,none⟩) (by show gO < _;omega)).trans (by subst hW0;rw [setC_blk (by omega)];exact t1)
 rw [hW0,hY]
 clear hW0 hY TY0 KY t0 t1 t2 t3 y0
 have z1:w5.heap.size < Y.heap.size:=by omega
 have z2:w5.heap.size+1 < Y.heap.size:=by omega
 have z3:g5 < Y.heap.size:=by omega
 have z4:w.heap.size < Y.heap.size:=by omega
 have z5:gO < Y.heap.size:=by omega
 have SY:Hid (Y.heap.size=w5.heap.size+2):=sY
 clear sY s0
 go_region
 obtain ⟨Z,hZ⟩:∃ Z,(Y.setCell ⟨w5.heap.size,k,none⟩ (.int .i64 lr.length)).drew=Z:=⟨_,rfl⟩
 have hs0:=SW0.out
 have KZ:Below W0.heap.size W0 Z:=by subst hZ;exact (HKY.out.setCell (p:=⟨w5.heap.size,k,none⟩) (by show W0.heap.size≤w5.heap.size;omega) _).drew
 have kZ:∀ b,b≠w5.heap.size→Z.heap[b]? =Y.heap[b]? :=fun b hb=>by subst hZ;exact Below.heap_setCell _ _ _ b hb
 have ZZ:Z.heap.size=Y.heap.size:=by subst hZ;show (Y.setCell _ _).heap.size=_;simp
 have TZ:Hid (OwnN Z W0.heap.size (.slice (some ⟨w5.heap.size,0,none⟩) 24 24) ((List.replicate 24 (0:Int)).set k (lr.length:Int))):=by
  subst hZ
  have p5:=(World.ownsRow.stored HTY.out k (.int .i64 lr.length)).1
  show OwnN _ _ _ _
  unfold OwnN
  rw [List.map_set,List.length_set]
  exact p5
 have d0:Z.cell? ⟨w.heap.size,0,none⟩=some (.slice (some ⟨gO,0,none⟩) m.length cO):=(World.cell?_of_block (w:=Y) (kZ w.heap.size (by omega))).trans b0
 have d1:Z.cell? ⟨gO,k,none⟩=some (.slice r.s lr.length r.c):=(World.cell?_of_block (w:=Y) (kZ gO (by omega))).trans b1
 have d2:Z.cell? ⟨w5.heap.size+1,0,none⟩=some (.int .i64 z):=(World.cell?_of_block (w:=Y) (kZ (w5.heap.size+1) (by omega))).trans a0
 have d3:Z.cell? ⟨w5.heap.size+1,1,none⟩=some (.slice (some ⟨w5.heap.size,0,none⟩) 24 24):=(World.cell?_of_block (w:=Y) (kZ (w5.heap.size+1) (by omega))).trans a1
 have d4:∀ j,Z.frozen? ⟨w5.heap.size+1,j,none⟩=false:=fun j=>(World.frozen?_of_block (w:=Y) (kZ (w5.heap.size+1) (by omega))).trans (a5 j)
 have hW9:∀ b,b < w.heap.size+2→W0.heap[b]? =W.heap[b]? :=fun b hb=>KW0.out.block b hb
 have d5:∀ j,Z.frozen? ⟨gO,j,none⟩=false:=fun j=>(KZ.frozen (p:=⟨gO,j,none⟩) (by show gO < _;omega)).trans ((World.frozen?_of_block (w:=W) (hW9 gO (by omega))).trans ((KW.out.frozen (p:=⟨gO,j,none⟩) hgO.2).trans (f1 j)))
 have d6:Z.cell? ⟨w.heap.size+1,0,none⟩=some (.slice none 0 0):=(KZ.cell (p:=⟨w.heap.size+1,0,none⟩) (by show w.heap.size+1 < _;omega)).trans ((World.cell?_of_block (w:=W) (hW9 (w.heap.size+1) (by omega))).trans (by rw [← HW.out];simp [go_sem]))
 have d7:∀ j,Z.frozen? ⟨w.heap.size+1,j,none⟩=false:=fun j=>(KZ.frozen (p:=⟨w.heap.size+1,j,none⟩) (by show w.heap.size+1 < _;omega)).trans ((World.frozen?_of_block (w:=W) (hW9 (w.heap.size+1) (by omega))).trans (by rw [← HW.out];simp [go_sem]))
 have HM0:Hid (OW W0 B (.slice (some ⟨gO,0,none⟩) m.length cO) S m):=(HM.out.below KW.out).below (by rw [SW.out];exact KW0.out)
 have HMb:Hid (∀ a∈mAs S,a.block < w.heap.size):=fun a ha=>(HM.out.om.blk ha).2
 have HKZ:Hid (Below W0.heap.size W0 Z):=KZ
 have OVZ:Hid (OwnN Z (w.heap.size+2) (.slice (some ⟨g5,0,none⟩) l.length c5) (l.set k (lr.length:Int))):=OV0.out.below KZ
 have HZZ:Hid (Z.heap.size=w5.heap.size+2):=by show _=_;rw [ZZ,SY.out]
 rw [hZ]
 clear hZ KZ kZ ZZ a0 a1 a2 a3 a4 a5 b0 b1 hW9 hs0
 cases b
 ·obtain ⟨X,hX⟩:∃ X,Z=X:=⟨_,rfl⟩
  subst hX
  have x0:=d0
  have x1:=d1
  have fx:=d5
  have xa:=d2
  have xb:=d3
  have xr:=d6
  have fr:=d7
  have KX:=HKZ
  have TX:=TZ
  have OVX:=OVZ
  have hsz:=SW0.out
  have ZX:Hid (w5.heap.size+2≤Z.heap.size):=by show _≤_;rw [HZZ.out];exact Nat.le_refl _
  clear d0 d1 d2 d3 d4 d5 d6 d7
  go_wp2_with fail
  have OWX:Hid (OW (Z.drew.alloc (.cells #[.int .i64 z,.slice (some ⟨w5.heap.size,0,none⟩) 24 24] 100)) B (.slice (some ⟨gO,0,none⟩) m.length cO) S m):=(HM0.out.below KX.out).below ((Below.drew (Below.refl _ _)).alloc (Nat.le_refl _) _)
  have zX:=KX.out.size
  have y1:w.heap.size < Z.heap.size:=by omega
  have y2:gO < Z.heap.size:=by omega
  have y3:B≤Z.heap.size:=by omega
  have y4:w5.heap.size+1 < Z.heap.size:=by have:=ZX.out;omega
  have y5:w.heap.size+1 < Z.heap.size:=by omega
  go_region_law (refine step_rec rfl _ _ rfl (Z.drew.alloc (.cells #[.int .i64 z,.slice (some ⟨w5.heap.size,0,none⟩) 24 24] 100)) B (.slice r.s lr.length r.c) lr.length (flatV r.vs lr) rfl (by have:=(OWX.out.r k r lr hk hlm).own;unfold RS.val at this;rw [hrv] at this;exact this) Z.heap.size (.int .i64 z) (.slice (some ⟨w5.heap.size,0,none⟩) 24 24) rfl rfl rfl (by simp [go_sem]) (by simp [go_sem]) (by omega) (by simp;omega) ?_;intro g6 c6 w6 ho6 hg6 hn6 hl6;have oc:w6.heap[gO]? =Z.heap[gO]? :=(hg6.block gO (by simp;omega) (fun e=>(OWX.out.outNe hk hlm (b:=gO) (by rw [← valB];exact e.symm)) rfl)).trans (show _=Z.heap[gO]? from Below.heap_alloc Z.drew _ _ y2);have ob:w6.heap[w.heap.size]? =Z.heap[w.heap.size]? :=(hg6.block w.heap.size (by simp;omega) (fun e=>absurd (RB.out w.heap.size (by rw [← valB];exact e.symm)) (Nat.lt_irrefl _))).trans (show _=Z.heap[w.heap.size]? from Below.heap_alloc Z.drew _ _ y1);have ob1:w6.heap[w.heap.size+1]? =Z.heap[w.heap.size+1]? :=(hg6.block (w.heap.size+1) (by simp;omega) (fun e=>absurd (RB.out (w.heap.size+1) (by rw [← valB];exact e.symm)) (by omega))).trans (show _=Z.heap[w.heap.size+1]? from Below.heap_alloc Z.drew _ _ y5);have ob5:w6.heap[w5.heap.size+1]? =Z.heap[w5.heap.size+1]? :=(hg6.block (w5.heap.size+1) (by simp;omega) (fun e=>absurd (RB.out (w5.heap.size+1) (by rw [← valB];exact e.symm)) (by omega))).trans (show _=Z.heap[w5.heap.size+1]? from Below.heap_alloc Z.drew _ _ y4);have t0:=(World.cell?_of_block (w:=Z) (a:=⟨w.heap.size,0,none⟩) ob).trans x0;have t1:=(World.cell?_of_block (w:=Z) (a:=⟨gO,k,none⟩) oc).trans x1;have t2:∀ j,w6.frozen? ⟨gO,j,none⟩=false:=(fun j=>(World.frozen?_of_block (w:=Z) (a:=⟨gO,j,none⟩) oc).trans (fx j));have t3:=(World.cell?_of_block (w:=Z) (a:=⟨w.heap.size+1,0,none⟩) ob1).trans xr;have t4:∀ j,w6.frozen? ⟨w.heap.size+1,j,none⟩=false:=(fun j=>(World.frozen?_of_block (w:=Z) (a:=⟨w.heap.size+1,j,none⟩) ob1).trans (fr j));have t5:=(World.cell?_of_block (w:=Z) (a:=⟨w5.heap.size+1,0,none⟩) ob5).trans xa;have t6:=(World.cell?_of_block (w:=Z) (a:=⟨w5.heap.size+1,1,none⟩) ob5).trans xb;have HO6:=(show Hid _ from ho6);have HG6:=(show Hid _ from hg6);have HN6:=(show Hid _ from hn6);clear ho6 hg6 hn6)
  all_goals
   have j1:¬ gO=w.heap.size:=by omega
   have j2:¬ gO=w.heap.size+1:=by omega
   have j3:gO < w6.heap.size:=by have:=HG6.out.size;simp at this;omega
   go_wp2
   obtain ⟨p1,p2,p3,p4,p5,p6⟩:=l6Fin (X:=Z) hB hne hk hlm hrv valB RB.out hgO HMb.out KW.out KW0.out q9 hsz HM0.out KX.out TX.out (by rw [List.length_set];rw [List.length_replicate]) OVX.out HO6.out HG6.out HN6.out
   refine bodyPost_ret (v:=.tuple #[.agg #[.slice (some ⟨gO,0,none⟩) m.length cO],.slice (some ⟨g5,0,none⟩) l.length c5]) (by simp [results,Tryz.results58,go_sem,t3,j1,j2]) rfl ⟨_,⟨some ⟨g6,0,none⟩,c6,r.vs++[⟨some ⟨w5.heap.size,0,none⟩,24,24⟩]⟩,rfl,p1,p2,p3,p4,p5,fun a ha e=>p6 a ha (by injection e with e;exact e.symm)⟩
 ·have hls:(l.set k (lr.length:Int)).length=l.length:=List.length_set
  have YR:Hid (IntsR (Z.alloc (.cells #[] 3)) (w.heap.size+2) Z.heap.size (some ⟨g5,0,none⟩) (l.set k (lr.length:Int))):=(ownN_intsR (c:=c5) (by rw [List.length_set];exact OVZ.out)).keep (Keep.of_below ((Below.refl _ _).alloc (Nat.le_refl _) _) (Nat.le_refl _))
  have z9:w5.heap.size+1 < Z.heap.size:=by rw [HZZ.out];omega
  have hsz:=SW0.out
  have hsz2:W0.heap.size≤Z.heap.size:=HKZ.out.size
  have YR2:Hid (∃ L:List Int,L=l.set k (lr.length:Int)∧L.length=l.length∧IntsR (Z.alloc (.cells #[] 3)) (w.heap.size+2) Z.heap.size (some ⟨g5,0,none⟩) L):=⟨_,rfl,hls,YR.out⟩
  obtain ⟨L,eL,lL,rL⟩:=YR2.out
  have HEL:Hid (L=l.set k (lr.length:Int)):=eL
  have HRL:Hid (IntsR (Z.alloc (.cells #[] 3)) (w.heap.size+2) Z.heap.size (some ⟨g5,0,none⟩) L):=rL
  have HlL:Hid (L.length=l.length):=lL
  clear YR YR2 hls eL rL lL
  go_wp2_with (at_builtin;refine app_copyI rfl _ _ rfl rfl _ Z.heap.size (some ⟨Z.heap.size,0,none⟩) 0 rfl (ownN_empty (Nat.le_refl _)) (some ⟨g5,0,none⟩) c5 L (by rw [HlL.out];rfl) HRL.out (by rw [HlL.out];omega) (by simp) ?_;rw [HlL.out];intro s7 c7 w7 ho7 hc7;have hb7:Below Z.heap.size Z w7:=((Below.refl _ _).alloc (Nat.le_refl _) _).trans hc7.low;have e0:=(hb7.cell (p:=⟨w5.heap.size+1,0,none⟩) z9).trans d2;have e1:=(hb7.cell (p:=⟨w5.heap.size+1,1,none⟩) z9).trans d3;have e4:∀ j,w7.frozen? ⟨w5.heap.size+1,j,none⟩=false:=(fun j=>(hb7.frozen (p:=⟨w5.heap.size+1,j,none⟩) z9).trans (d4 j));have HO7:=(show Hid _ from ho7);have HB7:Hid (Below Z.heap.size Z w7):=hb7;have z7:=hb7.size;have z8:w5.heap.size+1 < w7.heap.size:=(by omega);clear ho7 hc7 hb7)
  obtain ⟨X,hX⟩:∃ X,w7.setCell ⟨w5.heap.size+1,1,none⟩ (.slice s7 l.length c7)=X:=⟨_,rfl⟩
  have kX:∀ b,b≠w5.heap.size+1→b < Z.heap.size→X.heap[b]? =Z.heap[b]? :=fun b h1 h2=>by subst hX;rw [Below.heap_setCell _ _ _ b h1];exact HB7.out.block b h2
  have x0:X.cell? ⟨w.heap.size,0,none⟩=some (.slice (some ⟨gO,0,none⟩) m.length cO):=(World.cell?_of_block (w:=Z) (kX w.heap.size (by omega) (by omega))).trans d0
  have x1:X.cell? ⟨gO,k,none⟩=some (.slice r.s lr.length r.c):=(World.cell?_of_block (w:=Z) (kX gO (by omega) (by omega))).trans d1
  have fx:∀ j,X.frozen? ⟨gO,j,none⟩=false:=fun j=>(World.frozen?_of_block (w:=Z) (kX gO (by omega) (by omega))).trans (d5 j)
  have xr:X.cell? ⟨w.heap.size+1,0,none⟩=some (.slice none 0 0):=(World.cell?_of_block (w:=Z) (kX (w.heap.size+1) (by omega) (by omega))).trans d6
  have fr:∀ j,X.frozen? ⟨w.heap.size+1,j,none⟩=false:=fun j=>(World.frozen?_of_block (w:=Z) (kX (w.heap.size+1) (by omega) (by omega))).trans (d7 j)
  have xa:X.cell? ⟨w5.heap.size+1,0,none⟩=some (.int .i64 z):=by subst hX;rw [setC_off (by omega)];exact e0
  have xb:X.cell? ⟨w5.heap.size+1,1,none⟩=some (.slice s7 l.length c7):=by subst hX;exact setC_at (by rw [e1];rfl)
  have KX:Hid (Below W0.heap.size W0 X):=by subst hX;exact (HKZ.out.trans (HB7.out.mono hsz2)).setCell (p:=⟨w5.heap.size+1,1,none⟩) (by show W0.heap.size≤w5.heap.size+1;omega) _
  have TX:Hid (OwnN X W0.heap.size (.slice s7 l.length c7) (l.set k (lr.length:Int))):=by
   have h9:=HO7.out
   rw [HEL.out] at h9
   exact ownLow' (ownKeep' h9 (fun b e=>by have:=(World.ownsRow.lt h9 _ e).1;subst hX;exact Below.heap_setCell _ _ _ b (by show b≠w5.heap.size+1;omega))) hsz2
  have OVX:Hid (OwnN X (w.heap.size+2) (.slice (some ⟨g5,0,none⟩) l.length c5) (l.set k (lr.length:Int))):=ownKeep' OVZ.out (fun b e=>by have e9:some g5=some b:=e;injection e9 with e9;subst e9;exact kX g5 (by omega) (by omega))
  have ZX:Hid (w5.heap.size+2≤X.heap.size):=by subst hX;show _≤(w7.setCell _ _).heap.size;simp;omega
  rw [hX]
  clear hX kX d0 d1 d2 d3 d4 d5 d6 d7 e0 e1 e4
  go_wp2_with fail
  have OWX:Hid (OW (X.drew.alloc (.cells #[.int .i64 z,.slice s7 l.length c7] 100)) B (.slice (some ⟨gO,0,none⟩) m.length cO) S m):=(HM0.out.below KX.out).below ((Below.drew (Below.refl _ _)).alloc (Nat.le_refl _) _)
  have zX:=KX.out.size
  have y1:w.heap.size < X.heap.size:=by omega
  have y2:gO < X.heap.size:=by omega
  have y3:B≤X.heap.size:=by omega
  have y4:w5.heap.size+1 < X.heap.size:=by have:=ZX.out;omega
  have y5:w.heap.size+1 < X.heap.size:=by omega
  go_region_law (refine step_rec rfl _ _ rfl (X.drew.alloc (.cells #[.int .i64 z,.slice s7 l.length c7] 100)) B (.slice r.s lr.length r.c) lr.length (flatV r.vs lr) rfl (by have:=(OWX.out.r k r lr hk hlm).own;unfold RS.val at this;rw [hrv] at this;exact this) X.heap.size (.int .i64 z) (.slice s7 l.length c7) rfl rfl rfl (by simp [go_sem]) (by simp [go_sem]) (by omega) (by simp;omega) ?_;intro g6 c6 w6 ho6 hg6 hn6 hl6;have oc:w6.heap[gO]? =X.heap[gO]? :=(hg6.block gO (by simp;omega) (fun e=>(OWX.out.outNe hk hlm (b:=gO) (by rw [← valB];exact e.symm)) rfl)).trans (show _=X.heap[gO]? from Below.heap_alloc X.drew _ _ y2);have ob:w6.heap[w.heap.size]? =X.heap[w.heap.size]? :=(hg6.block w.heap.size (by simp;omega) (fun e=>absurd (RB.out w.heap.size (by rw [← valB];exact e.symm)) (Nat.lt_irrefl _))).trans (show _=X.heap[w.heap.size]? from Below.heap_alloc X.drew _ _ y1);have ob1:w6.heap[w.heap.size+1]? =X.heap[w.heap.size+1]? :=(hg6.block (w.heap.size+1) (by simp;omega) (fun e=>absurd (RB.out (w.heap.size+1) (by rw [← valB];exact e.symm)) (by omega))).trans (show _=X.heap[w.heap.size+1]? from Below.heap_alloc X.drew _ _ y5);have ob5:w6.heap[w5.heap.size+1]? =X.heap[w5.heap.size+1]? :=(hg6.block (w5.heap.size+1) (by simp;omega) (fun e=>absurd (RB.out (w5.heap.size+1) (by rw [← valB];exact e.symm)) (by omega))).trans (show _=X.heap[w5.heap.size+1]? from Below.heap_alloc X.drew _ _ y4);have t0:=(World.cell?_of_block (w:=X) (a:=⟨w.heap.size,0,none⟩) ob).trans x0;have t1:=(World.cell?_of_block (w:=X) (a:=⟨gO,k,none⟩) oc).trans x1;have t2:∀ j,w6.frozen? ⟨gO,j,none⟩=false:=(fun j=>(World.frozen?_of_block (w:=X) (a:=⟨gO,j,none⟩) oc).trans (fx j));have t3:=(World.cell?_of_block (w:=X) (a:=⟨w.heap.size+1,0,none⟩) ob1).trans xr;have t4:∀ j,w6.frozen? ⟨w.heap.size+1,j,none⟩=false:=(fun j=>(World.frozen?_of_block (w:=X) (a:=⟨w.heap.size+1,j,none⟩) ob1).trans (fr j));have t5:=(World.cell?_of_block (w:=X) (a:=⟨w5.heap.size+1,0,none⟩) ob5).trans xa;have t6:=(World.cell?_of_block (w:=X) (a:=⟨w5.heap.size+1,1,none⟩) ob5).trans xb;have HO6:=(show Hid _ from ho6);have HG6:=(show Hid _ from hg6);have HN6:=(show Hid _ from hn6);clear ho6 hg6 hn6)
  all_goals
   have j1:¬ gO=w.heap.size:=by omega
   have j2:¬ gO=w.heap.size+1:=by omega
   have j3:gO < w6.heap.size:=by have:=HG6.out.size;simp at this;omega
   go_wp2
   obtain ⟨p1,p2,p3,p4,p5,p6⟩:=l6Fin (X:=X) hB hne hk hlm hrv valB RB.out hgO HMb.out KW.out KW0.out q9 hsz HM0.out KX.out TX.out (by rw [List.length_set]) OVX.out HO6.out HG6.out HN6.out
   refine bodyPost_ret (v:=.tuple #[.agg #[.slice (some ⟨gO,0,none⟩) m.length cO],.slice (some ⟨g5,0,none⟩) l.length c5]) (by simp [results,Tryz.results58,go_sem,t3,j1,j2]) rfl ⟨_,⟨some ⟨g6,0,none⟩,c6,r.vs++[⟨s7,l.length,c7⟩]⟩,rfl,p1,p2,p3,p4,p5,fun a ha e=>p6 a ha (by injection e with e;exact e.symm)⟩
end Go.Proofs.YtkhjhibigldcgaaGreat
