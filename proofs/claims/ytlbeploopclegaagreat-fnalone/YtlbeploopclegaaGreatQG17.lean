/- A runner of the program prints. No condition. A runner of the program does its step, whichever. Condition: late is a number of 64 bits. What a turn of the program's runner takes back at its end. No condition. A turn of the program's runner. Condition: late is a number of 64 bits. A turn of the program's runner, whichever; stepIn. Condition: late is a number of 64 bits. -/
import Derived.Test.YtlbeploopclegaaGreatQG04
import Derived.Test.YtlbeploopclegaaGreatQG00
import Derived.Test.YtlbeploopclegaaGreatQG01
import Derived.Test.YtlbeploopclegaaGreatQG13
import Derived.Test.YtlbeploopclegaaGreatQG10
import Derived.Test.YtlbeploopclegaaGreatQG12
import Derived.Test.YtlbeploopclegaaGreatQG14
import Derived.Test.YtlbeploopclegaaGreatQG02
import Derived.Test.YtlbeploopclegaaGreatQG16
import Derived.Test.YtlbeploopclegaaGreatQMemStore
import Derived.Test.YtlbeploopclegaaGreatQG11
import Derived.Test.YtlbeploopclegaaGreatQG15
import Derived.Test.YtlbeploopclegaaGreatQG07
import Derived.Defers
import Derived.Recover
import Derived.Test.YtlbeploopclegaaGreatQG05
import Derived.Test.YtlbeploopclegaaGreatQG06
import Derived.Test.YtlbeploopclegaaGreatQKOkB
namespace Go.Proofs.YtlbeploopclegaaGreat
section
set_option linter.unusedSimpArgs false
set_option linter.unusedVariables false
set_option maxRecDepth 100000
open Go.RowKit
theorem boxSet {w:World} {b j:Nat} {v:Value} {cs:Array Value} {f:Nat×Nat} (h:w.heap[b]? =some (.cells cs 84 f)):BxW (w.setCell ⟨b,j,none⟩ v) b:=by
 refine ⟨cs.setIfInBounds j v,f,?_⟩
 simp only [World.setCell,Array.getElem?_modify,h]
 simp
theorem printQ {Hq : Nat → Prop} {w : World} {B R bm gk gc gs gr gv who nn cv cr cs cT : Nat} {sT : Option Addr} {late : Int} {vc vk vm : Value} {nc cc : Nat} {pc st : Int} {LC : List CV} {LK : List KV} {S : List RS} {d : MD} (v : Int) (h : Rn w R bm gk gc gs gr gv who nn cv cr cs late vc vk vm (.slice sT d.tr.length cT) nc cc pc st) (hq : MQ w B Hq vc vk vm (.slice sT d.tr.length cT) LC LK S d) (hf : d.tr.length < 4000) (hB : B ≤ w.heap.size) (bx : BxW w bm) (bB : B ≤ bm) (nR : (Value.slice sT d.tr.length cT).ownBlock ≠ some R) (nM : (Value.slice sT d.tr.length cT).ownBlock ≠ some bm) (nK : (Value.slice sT d.tr.length cT).ownBlock ≠ some gk) (nC : (Value.slice sT d.tr.length cT).ownBlock ≠ some gc) (n1 : R ≠ bm) (n3 : gk ≠ bm) (n4 : gc ≠ bm) :
  Calls Tryz.prog 163 #[.pointer (some ⟨R,0,none⟩),.int .i64 v] w fun e w'=>e=.returned (.bool true)∧∃ vt',MQ w' B Hq vc vk vm vt' LC LK S { d with tr:=d.tr++[⟨who,v⟩] }∧Rn w' R bm gk gc gs gr gv who nn cv cr cs late vc vk vm vt' nc cc pc st∧(∀ j,j≠5→w'.cell? ⟨bm,j,none⟩=w.cell? ⟨bm,j,none⟩)∧BxW w' bm∧Below B w w'∧∀ b',b' < w.heap.size→b'≠bm→(Value.slice sT d.tr.length cT).ownBlock≠some b'→w'.heap[b']? =w.heap[b']? :=by
 refine Calls.mono (print_yes v h hq.t hf hB nR nM) ?_
 rintro e w' ⟨rfl,g6,c6,w6,ho6,hg6,hn6,rfl⟩
 have dsz:w.drew.heap.size=w.heap.size:=rfl
 have asz:(w.drew.alloc (.cells #[.int .i64 who,.int .i64 v] 105)).heap.size=w.heap.size+1:=by simp
 have kb:∀ b',b' < w.heap.size→(Value.slice sT d.tr.length cT).ownBlock≠some b'→w6.heap[b']? =w.heap[b']? :=fun b' h1 h2=>(hg6.block b' (by omega) (fun e=>h2 e.symm)).trans (Below.heap_alloc w.drew _ _ h1)
 have s6:=hg6.size
 have q0:=hq.keep (w':=w.drew.alloc (.cells #[.int .i64 who,.int .i64 v] 105)) (fun b _ h1=>Below.heap_alloc w.drew _ _ h1) (by omega)
 have q6:=q0.note ⟨who,v⟩ ho6 (fun b h1 h2=>hg6.block b h1 (fun e=>h2 e.symm)) hg6.size hn6
 have bx6:BxW w6 bm:=bx.same (kb bm h.zm nM)
 have R6:=h.frame (w':=w6) (by omega) (kb R h.zR nR) (kb bm h.zm nM) (kb gk h.zk nK) (kb gc h.zc nC)
 have k6:Below B w w6:=Below.grown (((Below.drew (Below.refl _ _)).alloc (by omega) _)) hg6 (by omega) (fun q hq'=>(World.ownsRow.lt hq.t _ hq').1)
 refine ⟨rfl,_,q6.offW bx6,R6.tr n1 n3 n4,fun j hj=>?_,?_,k6.setCell (p:=⟨bm,5,none⟩) bB _,fun b' h1 h2 h3=>(Below.heap_setCell _ ⟨bm,_,none⟩ _ b' h2).trans (kb b' h1 h3)⟩
 ·refine (World.cell?_setCell_other _ _ _ _ ?_).trans (World.cell?_of_block (kb bm h.zm nM))
  intro e
  injection e with _ e
  exact hj e.symm
 ·obtain ⟨cs',f,c⟩:=bx6
  exact boxSet c
set_option maxHeartbeats 2000000 in
theorem do9y {Hq : Nat → Prop} {w : World} {B R bm gk gc gs gr gv who n cv cr cs ck N p cT : Nat} {sT : Option Addr} {late : Int} {vc vm : Value} {nc cc : Nat} {st : Int} {LC : List CV} {LK : List KV} {S : List RS} {d : MD} {k : KD} (a' : Nat) (r b nn va : Int) (h : Rn w R bm gk gc gs gr gv who n cv cr cs late vc (.slice (some ⟨gk, 0, none⟩) N ck) vm (.slice sT d.tr.length cT) nc cc p st) (hq : MQ w B Hq vc (.slice (some ⟨gk, 0, none⟩) N ck) vm (.slice sT d.tr.length cT) LC LK S d) (hN : LK.length = N) (hx : LK[who]? = some ⟨k, .slice (some ⟨gr, 0, none⟩) 8 cr, .slice (some ⟨gv, 0, none⟩) 24 cv⟩) (hp : k.pc = p) (hn8 : n ≤ 800) (hpn : p < n) (hB : B ≤ w.heap.size) (ha : a' < 8) (la : w.cell? ⟨gr, a', none⟩ = some (.int .i64 va)) (hva : k.regs.getD a' 0 = va) (hf : d.tr.length < 4000) (bx : BxW w bm) (bB : B ≤ bm) (nR : (Value.slice sT d.tr.length cT).ownBlock ≠ some R) (nM : (Value.slice sT d.tr.length cT).ownBlock ≠ some bm) (nK : (Value.slice sT d.tr.length cT).ownBlock ≠ some gk) (nC : (Value.slice sT d.tr.length cT).ownBlock ≠ some gc) (n1 : R ≠ bm) (n3 : gk ≠ bm) (n4 : gc ≠ bm) :
  Calls Tryz.prog 158 #[.pointer (some ⟨R,0,none⟩),.agg #[.int .i64 9,.int .i64 r,.int .i64 a',.int .i64 b,.int .i64 nn]] w fun e w'=>e=.returned (.int .i64 0)∧∃ LK' vt',MQ w' B Hq vc (.slice (some ⟨gk,0,none⟩) N ck) vm vt' LC LK' S (goM { d with tr:=d.tr++[⟨who,va⟩] } who k n ((p:Int)+1))∧w'.cell? ⟨bm,5,none⟩=some vt'∧(∀ j,j≠5→w'.cell? ⟨bm,j,none⟩=w.cell? ⟨bm,j,none⟩)∧(∀ j,w'.frozen? ⟨bm,j,none⟩=false)∧BxW w' bm∧Below B w w'∧∀ b',b' < w.heap.size→b'≠gk→b'≠bm→(Value.slice sT d.tr.length cT).ownBlock≠some b'→w'.heap[b']? =w.heap[b']? :=by
 obtain ⟨V,hV⟩:∃ V,w.alloc (.cells #[.int .i64 9,.int .i64 r,.int .i64 a',.int .i64 b,.int .i64 nn] 141)=V:=⟨_,rfl⟩
 have kv:Below w.heap.size w V:=by subst hV;exact (Below.refl _ _).alloc (Nat.le_refl _) _
 have zV:w.heap.size < V.heap.size:=by subst hV;simp
 have t2:V.cell? ⟨w.heap.size,2,none⟩=some (.int .i64 a'):=by subst hV;simp [go_sem]
 have RV:=hidM1 (h.below kv)
 have KV:=hidM1 kv
 have HV:=hidM1 hV
 have HQ:=hidM1 hq
 have HX:=hidM1 hx
 have bgk:B≤gk:=(World.ownsRow.lt hq.k.row gk rfl).1
 have bT:∀ q,(Value.slice sT d.tr.length cT).ownBlock=some q→B≤q:=fun q hq'=>(World.ownsRow.lt hq.t _ hq').1
 have fm0:=hidM1 h.fm
 obtain ⟨r0,r1,r2,r3,r4,m0,m1,m2,m3,fm,ec,c0,k0,k1,k3,fk,wc,zR,zm,zk,zc,zr⟩:=h
 have ba0:(0:Int)≤(a':Int):=by omega
 have ba1:(a':Int) < 8:=by omega
 have u2:=Ext.fit t2 zV
 have u0:=Ext.fit ((kv.cell (p:=⟨R,1,none⟩) zR).trans r1) (by omega)
 have u1:=Ext.fit ((kv.cell (p:=⟨gk,who * 4+1,none⟩) zk).trans k1) (by omega)
 have ua:=Ext.fit ((kv.cell (p:=⟨gr,a',none⟩) zr).trans la) (by omega)
 have hne:=ext_ne V
 clear kv hV t2 hq hx ec
 go_enter Tryz.func158,Tryz.ntmps158
 go_wp2_with fail
 rw [HV.out]
 refine regionSuf V 12 (by kernel_rfl) (by kernel_rfl) (by kernel_rfl) (by kernel_rfl) (by kernel_rfl) ?_
 dsimp only [List.take,List.drop]
 repeat (go_big_quiet_step (fail))
 refine wpQuiet_nil ?_
 rintro w3 ⟨X3,rfl⟩
 obtain ⟨U,hU⟩:∃ U,X3.w=U:=⟨_,rfl⟩
 have hb3:=X3.b
 rw [hU] at hb3 ⊢
 have KU:=hidM1 (KV.out.trans (hb3.mono (by omega)))
 have zU:=hb3.size
 have RU:=hidM1 (RV.out.below hb3)
 have QU:=hidM1 (HQ.out.keep (w':=U) (fun b _ h1=>KU.out.block b h1) KU.out.size)
 have PN:=hidM1 (printQ va RU.out QU.out hf (by omega) (bx.same (KU.out.block bm zm)) bB nR nM nK nC n1 n3 n4)
 clear hne u0 u1 u2 ua hU X3 r0 r1 r2 r3 r4 m0 m1 m2 m3 fm c0 k0 k1 k3 fk hb3 la
 have w1_:IntKind.i64.wrap ((p:Int)+1)=(p:Int)+1:=Go.IntWalk.i64_in _ (by omega)
 go_wp2_with (go_at_call 163;refine Calls.mono PN.out ?_;rintro e w7 ⟨rfl,vt7,q7,R7,c7,x7,b7,f7⟩;have Q7:=hidM1 q7;have HR7:=hidM1 R7;have C7:=hidM1 c7;have X7:=hidM1 x7;have B7:=hidM1 b7;have F7:=hidM1 f7;clear q7 c7 x7 b7 f7;obtain ⟨r0,r1,r2,r3,r4,m0,m1,m2,m3,fm,ec,c0,k0,k1,k3,fk,wc',zR',zm',zk',zc',zr'⟩:=R7;clear ec)
 have s7:=B7.out.size
 have fin:∀ (w6:World) (j:Nat) (z:Value),Below w7.heap.size (w7.setCell ⟨gk,j,none⟩ z) w6→(w6.cell? ⟨bm,5,none⟩=some vt7)∧(∀ j,j≠5→w6.cell? ⟨bm,j,none⟩=w.cell? ⟨bm,j,none⟩)∧(∀ j,w6.frozen? ⟨bm,j,none⟩=false)∧BxW w6 bm∧Below B w w6∧∀ b',b' < w.heap.size→b'≠gk→b'≠bm→(Value.slice sT d.tr.length cT).ownBlock≠some b'→w6.heap[b']? =w.heap[b']? :=by
  intro w6 j z hb6
  have hm:w6.heap[bm]? =w7.heap[bm]? :=(hb6.block bm HR7.out.zm).trans (Below.heap_setCell _ ⟨gk,_,none⟩ _ bm (Ne.symm n3))
  refine ⟨(World.cell?_of_block hm).trans HR7.out.m3,fun j hj=>(World.cell?_of_block hm).trans ((C7.out j hj).trans (World.cell?_of_block (KU.out.block bm zm))),fun j=>(World.frozen?_of_block hm).trans (HR7.out.fm j),X7.out.same hm,?_,fun b' h1 h2 h3 h4=>?_⟩
  ·exact (((KU.out.mono hB).trans B7.out).setCell (p:=⟨gk,j,none⟩) bgk _).trans (hb6.mono (by omega))
  ·exact (hb6.block b' (by omega)).trans ((Below.heap_setCell _ ⟨gk,_,none⟩ _ b' h2).trans ((F7.out b' (by omega) h3 h4).trans (KU.out.block b' h1)))
 have FIN:=hidM1 fin
 clear fin s7
 by_cases hin:(p:Int)+1 < (n:Int)
 ·have GT:=hidM1 (goTo_yes ((p:Int)+1) HR7.out (by omega) hin)
  refine Calls.mono GT.out ?_
  rintro e w6 ⟨rfl,hb6⟩
  have HB6:=hidM1 hb6
  clear hb6
  go_wp2
  go_ret
  obtain ⟨LK2,q2⟩:=MQ.go (n:=n) Q7.out hN HX.out ((p:Int)+1) hin (F:=w6) (fun b hb=>HB6.out.block b hb) (by simpa using HB6.out.size)
  exact ⟨rfl,LK2,vt7,q2,FIN.out _ _ _ HB6.out⟩
 ·have GT:=hidM1 (goTo_no ((p:Int)+1) HR7.out (by omega))
  refine Calls.mono GT.out ?_
  rintro e w6 ⟨rfl,hb6⟩
  have HB6:=hidM1 hb6
  clear hb6
  go_wp2
  go_ret
  obtain ⟨LK2,q2⟩:=MQ.no (n:=n) Q7.out hN HX.out ((p:Int)+1) (by omega) (F:=w6) (fun b hb=>HB6.out.block b hb) (by simpa using HB6.out.size)
  exact ⟨rfl,LK2,vt7,q2,FIN.out _ _ _ HB6.out⟩
end
section
set_option linter.unusedSimpArgs false
set_option linter.unusedVariables false
set_option maxRecDepth 100000
open Go.RowKit
theorem flatK_set4:∀ (L:List KV) (i:Nat) (k:KD) (r v:Value),i < L.length→((((flatK L).set (i * 4) (.int .i64 k.pc)).set (i * 4+1) r).set (i * 4+2) v).set (i * 4+3) (.int .i64 k.st)=flatK (L.set i ⟨k,r,v⟩)
 | [],i,k,r,v,h=>by simp at h
 | y::l,0,k,r,v,h=>rfl
 | y::l,i+1,k,r,v,h=>by
  have q:=flatK_set4 l i k r v (by simpa using h)
  have e0:(i+1) * 4=i * 4+1+1+1+1:=by omega
  have e1:(i+1) * 4+1=(i * 4+1)+1+1+1+1:=by omega
  have e2:(i+1) * 4+2=(i * 4+2)+1+1+1+1:=by omega
  have e3:(i+1) * 4+3=(i * 4+3)+1+1+1+1:=by omega
  rw [e1,e2,e3,e0]
  show _::_::_::_::((((flatK l).set (i * 4) _).set (i * 4+1) _).set (i * 4+2) _).set (i * 4+3) _=_::_::_::_::flatK (l.set i _)
  rw [q]
/- a core put in another's place, with rows of its own -/
theorem MQ0.core {w F : World} {B g c N : Nat} {vc vm vt : Value} {LC : List CV} {LK : List KV} {S : List RS} {d : MD} {i : Nat} (h : MQ0 w B vc (.slice (some ⟨g, 0, none⟩) N c) vm vt LC LK S d) (hN : LK.length = N) (hi : i < LK.length) (k : KD) (r v : Value) (hr : OwnN w B r k.regs) (hv : OwnN w B v k.vw) (hrv : ∀ q, r.ownBlock = some q → v.ownBlock ≠ some q)
  (hf:∀ q,(r.ownBlock=some q∨v.ownBlock=some q)→(∀ (j:Nat) (z:KV),j≠i→LK[j]? =some z→¬ (z.r.ownBlock=some q∨z.v.ownBlock=some q))∧∀ a∈mAs S,a.block≠q)
  (hF:∀ b,b < w.heap.size→F.heap[b]? =((((w.setCell ⟨g,i * 4,none⟩ (.int .i64 k.pc)).setCell ⟨g,i * 4+1,none⟩ r).setCell ⟨g,i * 4+2,none⟩ v).setCell ⟨g,i * 4+3,none⟩ (.int .i64 k.st)).heap[b]?) (hs:w.heap.size≤F.heap.size):
  MQ0 F B vc (.slice (some ⟨g,0,none⟩) N c) vm vt LC (LK.set i ⟨k,r,v⟩) S (putK d i k):=by
 subst hN
 have s0:=(World.ownsRow.stored h.k.row (i * 4) (.int .i64 k.pc)).1
 have s1:=(World.ownsRow.stored s0 (i * 4+1) r).1
 have s2:=(World.ownsRow.stored s1 (i * 4+2) v).1
 have s3:=(World.ownsRow.stored s2 (i * 4+3) (.int .i64 k.st)).1
 rw [flatK_set4 LK i k r v hi] at s3
 have hF':∀ b,b < w.heap.size→b≠g→F.heap[b]? =w.heap[b]? :=fun b h1 h2=>by
  rw [hF b h1]
  exact (Below.heap_setCell _ ⟨g,_,none⟩ _ b h2).trans ((Below.heap_setCell _ ⟨g,_,none⟩ _ b h2).trans ((Below.heap_setCell _ ⟨g,_,none⟩ _ b h2).trans (Below.heap_setCell _ ⟨g,_,none⟩ _ b h2)))
 have ne:∀ {e:TypeId} {size n:Nat} {u':Value} {xs:List Value},w.ownsRow B e size u' n xs→e≠53→∀ k,u'.ownBlock=some k→F.heap[k]? =w.heap[k]? :=fun hu he k hk'=>hF' k (World.ownsRow.lt hu _ hk').2 (fun e=>ownType' hu h.k.row he hk' (by rw [e];rfl))
 have oi:∀ (i':Nat) (x':KV),LK[i']? =some x'→OwnN F B x'.r x'.d.regs∧OwnN F B x'.v x'.d.vw:=fun i' x' hx'=>⟨ownKeep' (h.k.inn i' x' hx').1 (ne (h.k.inn i' x' hx').1 (by decide)),ownKeep' (h.k.inn i' x' hx').2 (ne (h.k.inn i' x' hx').2 (by decide))⟩
 refine ⟨⟨ownKeep' h.c.row (ne h.c.row (by decide)),fun i' x' hx'=>ownKeep' (h.c.inn i' x' hx') (ne (h.c.inn i' x' hx') (by decide)),h.c.sep⟩,h.ec,⟨?_,fun j z hz=>?_,fun j z k hz hk=>?_,fun j j' z z' k hz hz' hne hk=>?_⟩,?_,?_,ownKeep' h.t (ne h.t (by decide)),fun j z q hz hq=>?_⟩
 ·rw [List.length_set]
  exact ownKeep' s3 (fun q hq=>hF q (by have:=(World.ownsRow.lt s3 _ hq).2;simpa using this))
 ·rcases setKV_at hz with ⟨e1,e2,-⟩ | ⟨hj,q1⟩
  ·subst e1 e2
   exact ⟨ownKeep' hr (ne hr (by decide)),ownKeep' hv (ne hv (by decide))⟩
  ·exact oi j z q1
 ·rcases setKV_at hz with ⟨e1,e2,-⟩ | ⟨hj,q1⟩
  ·subst e1 e2
   exact hrv k hk
  ·exact h.k.two j z k q1 hk
 ·rcases setKV_at hz with ⟨e1,e2,-⟩ | ⟨hj,q1⟩
  ·rcases setKV_at hz' with ⟨e3,e4,-⟩ | ⟨hj',q2⟩
   ·exact absurd (e1.trans e3.symm) hne
   ·subst e1 e2
    exact (hf k hk).1 j' z' (Ne.symm hne) q2
  ·rcases setKV_at hz' with ⟨e3,e4,-⟩ | ⟨hj',q2⟩
   ·subst e3 e4
    exact fun e=>(hf k e).1 j z hne q1 hk
   ·exact h.k.sep j j' z z' k q1 q2 hne hk
 ·show (LK.set i _).map KV.d=d.cores.set i _
  rw [List.map_set,h.ek]
 ·refine ⟨h.m.n,ownKeep' h.m.row (ne h.m.row (by decide)),fun i' r l' hr hl=>?_,h.m.d⟩
  have q:=h.m.r i' r l' hr hl
  refine q.kept (ne q.own (by decide)) (fun a ha=>hF' _ (q.blk ha).2 (fun e=>?_)) hs
  obtain ⟨cs,f,c1⟩:=q.vt a ha
  obtain ⟨cs',f',c2⟩:=own_ty h.k.row (k:=g) rfl
  rw [e,c2] at c1
  injection c1 with c1
  injection c1 with _ c1
  exact absurd c1 (by decide)
 ·rcases setKV_at hz with ⟨e1,e2,-⟩ | ⟨hj,q1⟩
  ·subst e1 e2
   exact (hf q hq).2
  ·exact h.sk j z q q1 hq
theorem MQ.core {Hq : Nat → Prop} {w F : World} {B g c N : Nat} {vc vm vt : Value} {LC : List CV} {LK : List KV} {S : List RS} {d : MD} {i : Nat} (h : MQ w B Hq vc (.slice (some ⟨g, 0, none⟩) N c) vm vt LC LK S d) (hN : LK.length = N) (hi : i < LK.length) (k : KD) (r v : Value) (hr : OwnN w B r k.regs) (hv : OwnN w B v k.vw) (hrv : ∀ q, r.ownBlock = some q → v.ownBlock ≠ some q)
  (hf:∀ q,(r.ownBlock=some q∨v.ownBlock=some q)→(∀ (j:Nat) (z:KV),j≠i→LK[j]? =some z→¬ (z.r.ownBlock=some q∨z.v.ownBlock=some q))∧∀ a∈mAs S,a.block≠q)
  (hF:∀ b,b < w.heap.size→F.heap[b]? =((((w.setCell ⟨g,i * 4,none⟩ (.int .i64 k.pc)).setCell ⟨g,i * 4+1,none⟩ r).setCell ⟨g,i * 4+2,none⟩ v).setCell ⟨g,i * 4+3,none⟩ (.int .i64 k.st)).heap[b]?) (hs:w.heap.size≤F.heap.size) (hq':∀ q,(r.ownBlock=some q∨v.ownBlock=some q)→Hq q):
  MQ F B Hq vc (.slice (some ⟨g,0,none⟩) N c) vm vt LC (LK.set i ⟨k,r,v⟩) S (putK d i k):=⟨h.toMQ0.core hN hi k r v hr hv hrv hf hF hs,h.hh.set i _ hq',fun q hq=>h.hn q (Nat.le_trans hs hq)⟩
/- blocks that a step leaves alone -/
structure Off8 (gk gr gv gO bm:Nat) (S:List RS) (vt:Value) (b:Nat):Prop where
 k:b≠gk
 r:b≠gr
 v:b≠gv
 o:b≠gO
 m:b≠bm
 s:∀ (i:Nat) (r:RS),S[i]? =some r→r.val.ownBlock≠some b
 t:vt.ownBlock≠some b
def DoQ (w:World) (B:Nat) (Hq:Nat→Prop) (bm gk gr gv gO cr cv who:Nat) (vc vk vm vt:Value) (LC:List CV) (LK:List KV) (S:List RS) (d:MD) (x:MD×Int) (e:Ending) (w':World):Prop:=
 e=.returned (.int .i64 x.2)∧∃ vt' LK' S' d',MQ w' B Hq vc vk vm vt' LC LK' S' d'∧((x.2=0∧d'=x.1)∨(x.2=3∧x.1=d∧S'=S∧vt'=vt∧LK'.length=LK.length∧(∀ j,j≠who→LK'[j]? =LK[j]?)∧∃ k',d'=putK d who k'∧LK'[who]? =some ⟨k',.slice (some ⟨gr,0,none⟩) 8 cr,.slice (some ⟨gv,0,none⟩) 24 cv⟩))∧w'.cell? ⟨bm,5,none⟩=some vt'∧(∀ j,j≠5→w'.cell? ⟨bm,j,none⟩=w.cell? ⟨bm,j,none⟩)∧(∀ j,w'.frozen? ⟨bm,j,none⟩=false)∧BxW w' bm∧Below B w w'∧∀ b',b' < w.heap.size→Off8 gk gr gv gO bm S vt b'→w'.heap[b']? =w.heap[b']?
theorem doq0 {Hq:Nat→Prop} {w w':World} {B bm gk gr gv gO cr cv who:Nat} {vc vk vm vt:Value} {LC:List CV} {LK LK':List KV} {S S':List RS} {d x:MD} (hq:MQ w' B Hq vc vk vm vt LC LK' S' x) (hb:Below B w w') (hm:w'.heap[bm]? =w.heap[bm]?) (m3:w.cell? ⟨bm,5,none⟩=some vt) (fm:∀ j,w.frozen? ⟨bm,j,none⟩=false) (bx:BxW w bm) (hf:∀ b',b' < w.heap.size→Off8 gk gr gv gO bm S vt b'→w'.heap[b']? =w.heap[b']?):DoQ w B Hq bm gk gr gv gO cr cv who vc vk vm vt LC LK S d (x,0) (.returned (.int .i64 0)) w':=
 ⟨rfl,vt,LK',S',x,hq,.inl ⟨rfl,rfl⟩,(World.cell?_of_block hm).trans m3,fun j _=>World.cell?_of_block hm,fun j=>(World.frozen?_of_block hm).trans (fm j),bx.same hm,hb,hf⟩
theorem doq3 {Hq:Nat→Prop} {w w':World} {B bm gk gr gv gO cr cv who:Nat} {vc vk vm vt:Value} {LC:List CV} {LK LK':List KV} {S:List RS} {d:MD} {k':KD} (hq:MQ w' B Hq vc vk vm vt LC LK' S (putK d who k')) (hl:LK'.length=LK.length) (hj:∀ j,j≠who→LK'[j]? =LK[j]?) (hw:LK'[who]? =some ⟨k',.slice (some ⟨gr,0,none⟩) 8 cr,.slice (some ⟨gv,0,none⟩) 24 cv⟩) (hb:Below B w w') (hm:w'.heap[bm]? =w.heap[bm]?) (m3:w.cell? ⟨bm,5,none⟩=some vt) (fm:∀ j,w.frozen? ⟨bm,j,none⟩=false) (bx:BxW w bm) (hf:∀ b',b' < w.heap.size→Off8 gk gr gv gO bm S vt b'→w'.heap[b']? =w.heap[b']?):DoQ w B Hq bm gk gr gv gO cr cv who vc vk vm vt LC LK S d (d,3) (.returned (.int .i64 3)) w':=
 ⟨rfl,vt,LK',S,_,hq,.inr ⟨rfl,rfl,rfl,rfl,hl,hj,k',rfl,hw⟩,(World.cell?_of_block hm).trans m3,fun j _=>World.cell?_of_block hm,fun j=>(World.frozen?_of_block hm).trans (fm j),bx.same hm,hb,hf⟩
theorem putK_self {d:MD} {who:Nat} {k:KD} (h:d.cores[who]? =some k):putK d who k=d:=by
 unfold putK
 have e:d.cores.set who k=d.cores:=by
  refine List.ext_getElem? fun j=>?_
  rw [List.getElem?_set]
  by_cases hj:who=j
  ·subst hj
   rw [if_pos rfl,h]
   have:=(List.getElem?_eq_some_iff.1 h).1
   rw [if_pos this]
  ·rw [if_neg hj]
 rw [e]
set_option maxHeartbeats 4000000 in
theorem do_any {Hq : Nat → Prop} {w : World} {B R bm p gc cc gk ck gs cs gr cr gv cv gO cO cT who : Nat} {sT : Option Addr} {vc vk vm vt : Value} {LC : List CV} {LK : List KV} {S : List RS} {d : MD} {k : KD} {code : List I5} {s : I5} {late : Int} (h : MQ w B Hq vc vk vm vt LC LK S d) (ha : At8 d who k code s) (O : Op8 w B vc vk vm vt LK d who p k code s gc cc gk ck gs cs gr cr gv cv gO cO sT cT) (hR : Rn w R bm gk gc gs gr gv who code.length cv cr cs late vc vk vm vt d.codes.length cc p k.st) (bx : BxW w bm) (bB : B ≤ bm) (hB : B ≤ w.heap.size) (hlate : late ≤ 9223372036854775807) (oR : Off8 gk gr gv gO bm S vt R) :
  Calls Tryz.prog 158 #[.pointer (some ⟨R,0,none⟩),.agg #[.int .i64 s.o,.int .i64 s.r,.int .i64 s.a,.int .i64 s.b,.int .i64 s.n]] w (DoQ w B Hq bm gk gr gv gO cr cv who vc vk vm vt LC LK S d (stepAt d who late k code.length s)):=by
 obtain ⟨n1,n2,n3,n4,n5,n6,n7,n8,n9,n10⟩:=O.ne h
 have hrow:=(h.k.inn who _ O.hx).1
 have hvow:=(h.k.inn who _ O.hx).2
 have ek:=O.ek
 have em:=O.em
 have et:=O.et
 have ec:=O.ec
 subst ek em et ec
 have mr:bm≠gr:=fun e=>own_bw hrow (by decide) bx (by rw [e];rfl)
 have mv:bm≠gv:=fun e=>own_bw hvow (by decide) bx (by rw [e];rfl)
 have mk:bm≠gk:=fun e=>own_bw h.k.row (by decide) bx (by rw [e];rfl)
 have mo:bm≠gO:=fun e=>own_bw h.m.row (by decide) bx (by rw [e];rfl)
 have mc:gc≠bm:=fun e=>own_bw h.c.row (by decide) bx (by rw [← e];rfl)
 have mt:(Value.slice sT d.tr.length cT).ownBlock≠some bm:=own_bw h.t (by decide) bx
 have tk:(Value.slice sT d.tr.length cT).ownBlock≠some gk:=fun e=>ownType' h.t h.k.row (by decide) e rfl
 have tc:(Value.slice sT d.tr.length cT).ownBlock≠some gc:=fun e=>ownType' h.t h.c.row (by decide) e rfl
 have m3:=hR.m3
 have fm:=hR.fm
 have zm:=hR.zm
 have hk:=ha.hk
 have h8:=ha.regs
 have hn8:=ha.n8
 have hp:=O.hp
 have hpl:=ha.pcl
 have hpn:p < code.length:=by omega
 have hok:=ha.ok
 have hok':=hok
 unfold stX Plain.stepB at hok'
 rw [decide_eq_true_eq] at hok'
 have rr:=O.r
 have hx:=O.hx
 have hmem:=ha.mem
 have hvw:=ha.vw
 have h24:=(memB_at hmem (i:=0) (by omega)).1
 have hvl:k.vw.length=24:=by have:=(viewB_iff.1 hvw).1;omega
 rcases (show (s.o=1∨s.o=2∨s.o=3∨s.o=4)∨s.o=9∨s.o=10∨s.o=11∨s.o=12∨s.o=13∨s.o=5∨s.o=6∨s.o=7∨s.o=8 by omega) with e | e | e | e | e | e | e | e | e | e
 ·obtain ⟨o,r,a,b,n⟩:=s
  simp only at e hok' ⊢
  obtain ⟨r',hr'⟩:∃ r':Nat,r=r':=⟨r.toNat,by omega⟩
  obtain ⟨a',ha'⟩:∃ a':Nat,a=a':=⟨a.toNat,by omega⟩
  obtain ⟨b',hb'⟩:∃ b':Nat,b=b':=⟨b.toNat,by omega⟩
  subst hr' ha' hb'
  refine Calls.mono (do14 o e r' a' b' n hR h rfl hx hp h8 (by omega) (by omega) (by omega) hn8 hpn hB oR.r mr (Ne.symm n2) (Ne.symm n1)) ?_
  rintro e1 w' ⟨rfl,LK',q,b6,f6⟩
  have E2:(stepAt d who late k code.length ⟨o,r',a',b',n⟩).2=0:=by rw [stepAt_reck _ _ _ _ _ _ _ _ _ _ e]
  obtain ⟨X,hX⟩:∃ X,stepAt d who late k code.length ⟨o,r',a',b',n⟩=X:=⟨_,rfl⟩
  rw [hX] at q E2 ⊢
  obtain ⟨x1,x2⟩:=X
  simp only at q E2
  subst E2
  exact doq0 q b6 (f6 bm zm mr mk) m3 fm bx (fun b' h1 h2=>f6 b' h1 h2.r h2.k)
 ·obtain ⟨o,r,a,b,n⟩:=s
  simp only at e hok' ⊢
  subst e
  obtain ⟨a',ha'⟩:∃ a':Nat,a=a':=⟨a.toNat,by omega⟩
  subst ha'
  rw [stepAt9 _ _ _ _ _ _ rfl]
  by_cases hf:d.tr.length=4000
  ·rw [if_pos hf]
   refine Calls.mono (do9n a' r b n _ hR (by omega) (rr a' (by omega)) (by omega)) ?_
   rintro e w' ⟨rfl,b6⟩
   have q:=h.keep (w':=w') (fun b _ h1=>b6.block b h1) b6.size
   rw [← putK_self hk] at q
   exact doq3 (LK':=LK) q rfl (fun _ _=>rfl) hx (b6.mono hB) (b6.block bm zm) m3 fm bx (fun b' h1 _=>b6.block b' h1)
  ·rw [if_neg hf]
   have htr:=ha.tr
   refine Calls.mono (do9y a' r b n _ hR h rfl hx hp hn8 hpn hB (by omega) (rr a' (by omega)) rfl (by omega) bx bB oR.t mt tk tc oR.m (Ne.symm mk) mc) ?_
   rintro e w' ⟨rfl,LK',vt',q,c3,cj,fj,bx',b6,f6⟩
   refine ⟨rfl,vt',LK',S,_,q,.inl ⟨rfl,?_⟩,c3,cj,fj,bx',b6,fun b' h1 h2=>f6 b' h1 h2.k h2.m h2.t⟩
   unfold regA
   simp only [Int.toNat_natCast]
   rw [hp]
 ·obtain ⟨o,r,a,b,n⟩:=s
  simp only at e hok' ⊢
  subst e
  refine Calls.mono (do10 r a b n hR h rfl hx hp hn8 hpn hB (by omega) (by omega)) ?_
  rintro e w' ⟨rfl,LK',q,b6,f6⟩
  have E2:(stepAt d who late k code.length ⟨10,r,a,b,n⟩).2=0:=by rw [stepAt10 _ _ _ _ _ _ rfl]
  obtain ⟨X,hX⟩:∃ X,stepAt d who late k code.length ⟨10,r,a,b,n⟩=X:=⟨_,rfl⟩
  rw [hX] at q E2 ⊢
  obtain ⟨x1,x2⟩:=X
  simp only at q E2
  subst E2
  exact doq0 q b6 (f6 bm zm mk) m3 fm bx (fun b' h1 h2=>f6 b' h1 h2.k)
 ·obtain ⟨o,r,a,b,n⟩:=s
  simp only at e hok' ⊢
  subst e
  obtain ⟨a',ha'⟩:∃ a':Nat,a=a':=⟨a.toNat,by omega⟩
  subst ha'
  refine Calls.mono (do11 a' r b n _ hR h rfl hx hp hn8 hpn hB (by omega) (rr a' (by omega)) rfl (by omega) (by omega)) ?_
  rintro e w' ⟨rfl,LK',q,b6,f6⟩
  have E2:(stepAt d who late k code.length ⟨11,r,a',b,n⟩).2=0:=by rw [stepAt11 _ _ _ _ _ _ rfl]
  obtain ⟨X,hX⟩:∃ X,stepAt d who late k code.length ⟨11,r,a',b,n⟩=X:=⟨_,rfl⟩
  rw [hX] at q E2 ⊢
  obtain ⟨x1,x2⟩:=X
  simp only at q E2
  subst E2
  exact doq0 q b6 (f6 bm zm mk) m3 fm bx (fun b' h1 h2=>f6 b' h1 h2.k)
 ·obtain ⟨o,r,a,b,n⟩:=s
  simp only at e hok' ⊢
  subst e
  refine Calls.mono (do12 r a b n hR h rfl hx hp hn8 hpn hB) ?_
  rintro e w' ⟨rfl,LK',q,b6,f6⟩
  have E2:(stepAt d who late k code.length ⟨12,r,a,b,n⟩).2=0:=by rw [stepAt12 _ _ _ _ _ _ rfl]
  obtain ⟨X,hX⟩:∃ X,stepAt d who late k code.length ⟨12,r,a,b,n⟩=X:=⟨_,rfl⟩
  rw [hX] at q E2 ⊢
  obtain ⟨x1,x2⟩:=X
  simp only at q E2
  subst E2
  exact doq0 q b6 (f6 bm zm mk) m3 fm bx (fun b' h1 h2=>f6 b' h1 h2.k)
 ·obtain ⟨o,r,a,b,n⟩:=s
  simp only at e hok' ⊢
  subst e
  refine Calls.mono (do13 r a b n hR h rfl hx hp hn8 hpn hB) ?_
  rintro e w' ⟨rfl,LK',q,b6,f6⟩
  have E2:(stepAt d who late k code.length ⟨13,r,a,b,n⟩).2=0:=by rw [stepAt13 _ _ _ _ _ _ rfl]
  obtain ⟨X,hX⟩:∃ X,stepAt d who late k code.length ⟨13,r,a,b,n⟩=X:=⟨_,rfl⟩
  rw [hX] at q E2 ⊢
  obtain ⟨x1,x2⟩:=X
  simp only at q E2
  subst E2
  exact doq0 q b6 (f6 bm zm mk) m3 fm bx (fun b' h1 h2=>f6 b' h1 h2.k)
 ·rw [stepAtM _ _ _ _ _ _ (by omega)]
  have hce:∀ V,Below w.heap.size w V→Calls Tryz.prog 160 #[.pointer (some ⟨R,0,none⟩),.agg #[.int .i64 s.o,.int .i64 s.r,.int .i64 s.a,.int .i64 s.b,.int .i64 s.n]] V fun e w'=>e=.returned (.int .i64 (cellM k s))∧Below V.heap.size V w':=fun V hV=>cellOf_any s k _ (hR.below hV) (fun i hi=>(hV.cell (p:=⟨gr,i,none⟩) hR.zr).trans (rr i hi)) hok (by omega)
  obtain ⟨o,r,a,b,n⟩:=s
  simp only at e hok' hce ⊢
  subst e
  by_cases hcl:0≤cellM k ⟨5,r,a,b,n⟩∧cellM k ⟨5,r,a,b,n⟩≤23
  ·rw [if_pos hcl]
   obtain ⟨c,hc⟩:∃ c:Nat,cellM k ⟨5,r,a,b,n⟩=c:=⟨(cellM k ⟨5,r,a,b,n⟩).toNat,by omega⟩
   rw [hc] at hce hcl ⊢
   simp only [Int.toNat_natCast]
   have hc24:c < 24:=by omega
   obtain ⟨lr,hlr⟩:∃ lr,d.mem[c]? =some lr:=⟨_,List.getElem?_eq_getElem (by omega)⟩
   have hgd:d.mem.getD c []=lr:=by rw [List.getD_eq_getElem?_getD,hlr];rfl
   have hSn:=h.m.n
   obtain ⟨r1,hr1⟩:∃ r1,S[c]? =some r1:=⟨_,List.getElem?_eq_getElem (by omega)⟩
   have hro:=(h.m.r c r1 lr hr1 hlr).own
   have rk:r1.val.ownBlock≠some gk:=fun e=>ownType' hro h.k.row (by decide) e rfl
   have rc:r1.val.ownBlock≠some gc:=fun e=>ownType' hro h.c.row (by decide) e rfl
   have rm:r1.val.ownBlock≠some bm:=own_bw hro (by decide) bx
   have h4:lr.length≤4000:=by
    obtain ⟨-,l9,hl9,-,-,h4,-⟩:=memB_at hmem hc24
    rw [hlr] at hl9
    injection hl9 with hl9
    subst hl9
    exact h4
   have KQ:∀ V,Below w.heap.size w V→MQ V B Hq (.slice (some ⟨gc,0,none⟩) d.codes.length cc) (.slice (some ⟨gk,0,none⟩) LK.length ck) (.slice (some ⟨gO,0,none⟩) d.mem.length cO) (.slice sT d.tr.length cT) LC LK S d:=fun V hV=>h.keep (w':=V) (fun b _ h1=>hV.block b h1) hV.size
   rw [hgd]
   rw [if_neg (by omega)]
   obtain ⟨r',hr'⟩:∃ r':Nat,r=r':=⟨r.toNat,by omega⟩
   subst hr'
   refine Calls.mono (doMy 5 r' a b n c (by omega) hR h rfl hx hn8 hpn hB hce (by omega) (putK d who { k with regs:=k.regs.set r' (ldX d.mem k.vw c late).v,vw:=ldW d.mem k.vw c late false }) { k with regs:=k.regs.set r' (ldX d.mem k.vw c late).v,vw:=ldW d.mem k.vw c late false } (fun b'=>b'=gv∨b'=gr) (fun V hV=>?_) (by rintro (e | e);exact oR.v e;exact oR.r e) (by rintro (e | e);exact mv e;exact mr e) (by rintro (e | e);exact n8 e.symm;exact n2 e.symm) (by rintro (e | e);exact n9 e.symm;exact n1 e.symm)) ?_
   ·refine Calls.mono (touch5 c r' a b n (hR.below hV) (KQ V hV) hx h8 hvw hmem hc24 (by omega) hlate (by have:=hV.size;omega) oR.v mv) ?_
    rintro e w' ⟨rfl,LK',q,x,l,b6,f6⟩
    exact ⟨rfl,LK',S,q,x,l,b6,fun b' h1 h2=>f6 b' (by have:=hV.size;omega) (fun e=>h2 (.inl e)) (fun e=>h2 (.inr e))⟩
   ·rintro e w' ⟨rfl,LK',S',q,b6,f6⟩
    have E:goM (memS d late k ⟨5,r',a,b,n⟩ c).1 who (memS d late k ⟨5,r',a,b,n⟩ c).2 code.length (k.pc+1)=goM (putK d who { k with regs:=k.regs.set r' (ldX d.mem k.vw c late).v,vw:=ldW d.mem k.vw c late false }) who { k with regs:=k.regs.set r' (ldX d.mem k.vw c late).v,vw:=ldW d.mem k.vw c late false } code.length ((p:Int)+1):=by
     rw [goM_put,← hp]
     unfold memS
     dsimp only
     rw [if_pos rfl]
     all_goals simp only [Int.toNat_natCast]
    rw [E]
    exact doq0 q b6 (f6 bm zm (by rintro (e | e);exact mv e;exact mr e) mk) m3 fm bx (fun b' h1 h2=>f6 b' h1 (by rintro (e | e);exact h2.v e;exact h2.r e) h2.k)
  ·rw [if_neg hcl]
   refine Calls.mono (doMo 5 r a b n _ (by omega) hR h rfl hx hn8 hpn hB hce (by omega)) ?_
   rintro e w' ⟨rfl,LK',q,b6,f6⟩
   exact doq0 q b6 (f6 bm zm mk) m3 fm bx (fun b' h1 h2=>f6 b' h1 h2.k)
 ·rw [stepAtM _ _ _ _ _ _ (by omega)]
  have hce:∀ V,Below w.heap.size w V→Calls Tryz.prog 160 #[.pointer (some ⟨R,0,none⟩),.agg #[.int .i64 s.o,.int .i64 s.r,.int .i64 s.a,.int .i64 s.b,.int .i64 s.n]] V fun e w'=>e=.returned (.int .i64 (cellM k s))∧Below V.heap.size V w':=fun V hV=>cellOf_any s k _ (hR.below hV) (fun i hi=>(hV.cell (p:=⟨gr,i,none⟩) hR.zr).trans (rr i hi)) hok (by omega)
  obtain ⟨o,r,a,b,n⟩:=s
  simp only at e hok' hce ⊢
  subst e
  by_cases hcl:0≤cellM k ⟨6,r,a,b,n⟩∧cellM k ⟨6,r,a,b,n⟩≤23
  ·rw [if_pos hcl]
   obtain ⟨c,hc⟩:∃ c:Nat,cellM k ⟨6,r,a,b,n⟩=c:=⟨(cellM k ⟨6,r,a,b,n⟩).toNat,by omega⟩
   rw [hc] at hce hcl ⊢
   simp only [Int.toNat_natCast]
   have hc24:c < 24:=by omega
   obtain ⟨lr,hlr⟩:∃ lr,d.mem[c]? =some lr:=⟨_,List.getElem?_eq_getElem (by omega)⟩
   have hgd:d.mem.getD c []=lr:=by rw [List.getD_eq_getElem?_getD,hlr];rfl
   have hSn:=h.m.n
   obtain ⟨r1,hr1⟩:∃ r1,S[c]? =some r1:=⟨_,List.getElem?_eq_getElem (by omega)⟩
   have hro:=(h.m.r c r1 lr hr1 hlr).own
   have rk:r1.val.ownBlock≠some gk:=fun e=>ownType' hro h.k.row (by decide) e rfl
   have rc:r1.val.ownBlock≠some gc:=fun e=>ownType' hro h.c.row (by decide) e rfl
   have rm:r1.val.ownBlock≠some bm:=own_bw hro (by decide) bx
   have h4:lr.length≤4000:=by
    obtain ⟨-,l9,hl9,-,-,h4,-⟩:=memB_at hmem hc24
    rw [hlr] at hl9
    injection hl9 with hl9
    subst hl9
    exact h4
   have KQ:∀ V,Below w.heap.size w V→MQ V B Hq (.slice (some ⟨gc,0,none⟩) d.codes.length cc) (.slice (some ⟨gk,0,none⟩) LK.length ck) (.slice (some ⟨gO,0,none⟩) d.mem.length cO) (.slice sT d.tr.length cT) LC LK S d:=fun V hV=>h.keep (w':=V) (fun b _ h1=>hV.block b h1) hV.size
   rw [hgd]
   obtain ⟨b',hb'⟩:∃ b':Nat,b=b':=⟨b.toNat,by omega⟩
   subst hb'
   by_cases hf:lr.length=4000
   ·rw [if_pos ⟨by decide,hf⟩]
    refine Calls.mono (doMn 6 r a b' n c (by omega) hR h rfl hx hn8 hpn hB hce (by omega) (fun V w'=>Below V.heap.size V w') (fun V hV=>?_)) ?_
    ·exact touch6n c b' r a n _ lr r1 (hR.below hV) (KQ V hV) hx hvl hmem hc24 (by omega) ((hV.cell (p:=⟨gr,b',none⟩) hR.zr).trans (rr b' (by omega))) hlr hr1 (by omega) (by have:=hV.size;omega)
    ·rintro e w' ⟨rfl,V,hV,hV'⟩
     have b6:Below w.heap.size w w':=hV.trans (hV'.mono hV.size)
     have q:=h.keep (w':=w') (fun b _ h1=>b6.block b h1) b6.size
     rw [← putK_self hk] at q
     exact doq3 (LK':=LK) q rfl (fun _ _=>rfl) hx (b6.mono hB) (b6.block bm zm) m3 fm bx (fun b' h1 _=>b6.block b' h1)
   ·rw [if_neg (fun e=>hf e.2)]
    refine Calls.mono (doMy 6 r a b' n c (by omega) hR h rfl hx hn8 hpn hB hce (by omega) { putK d who { k with vw:=k.vw.set c (lr.length:Int) } with mem:=d.mem.set c (lr++[⟨k.regs.getD b' 0,toldL k.vw c lr.length false⟩]) } { k with vw:=k.vw.set c (lr.length:Int) } (fun b'=>b'=gv∨b'=gO∨r1.val.ownBlock=some b') (fun V hV=>?_) (by rintro (e | e | e);exact oR.v e;exact oR.o e;exact oR.s c r1 hr1 e) (by rintro (e | e | e);exact mv e;exact mo e;exact rm e) (by rintro (e | e | e);exact n8 e.symm;exact n6 e;exact rk e) (by rintro (e | e | e);exact n9 e.symm;exact n7 e;exact rc e)) ?_
    ·refine Calls.mono (touch6y c b' r a n _ lr r1 (hR.below hV) (KQ V hV) hx hvl hmem hc24 (by omega) ((hV.cell (p:=⟨gr,b',none⟩) hR.zr).trans (rr b' (by omega))) hlr hr1 (by omega) (by have:=hV.size;omega)) ?_
     rintro e w' ⟨rfl,r',q,b6,f6⟩
     exact ⟨rfl,_,_,q,set_at hx,by simp,b6,fun b' h1 h2=>f6 b' (by have:=hV.size;omega) (fun e=>h2 (.inl e)) (fun e=>h2 (.inr (.inl e))) (fun e=>h2 (.inr (.inr e)))⟩
    ·rintro e w' ⟨rfl,LK',S',q,b6,f6⟩
     have E:goM (memS d late k ⟨6,r,a,b',n⟩ c).1 who (memS d late k ⟨6,r,a,b',n⟩ c).2 code.length (k.pc+1)=goM { putK d who { k with vw:=k.vw.set c (lr.length:Int) } with mem:=d.mem.set c (lr++[⟨k.regs.getD b' 0,toldL k.vw c lr.length false⟩]) } who { k with vw:=k.vw.set c (lr.length:Int) } code.length ((p:Int)+1):=by
      show _=goM (putK { d with mem:=d.mem.set c (lr++[⟨k.regs.getD b' 0,toldL k.vw c lr.length false⟩]) } who { k with vw:=k.vw.set c (lr.length:Int) }) who { k with vw:=k.vw.set c (lr.length:Int) } code.length ((p:Int)+1)
      rw [goM_put,← hp]
      unfold memS stM stW regA
      dsimp only
      rw [if_neg (by decide),if_neg (by decide),hgd]
      all_goals rfl
     rw [E]
     exact doq0 q b6 (f6 bm zm (by rintro (e | e | e);exact mv e;exact mo e;exact rm e) mk) m3 fm bx (fun b' h1 h2=>f6 b' h1 (by rintro (e | e | e);exact h2.v e;exact h2.o e;exact h2.s c r1 hr1 e) h2.k)
  ·rw [if_neg hcl]
   refine Calls.mono (doMo 6 r a b n _ (by omega) hR h rfl hx hn8 hpn hB hce (by omega)) ?_
   rintro e w' ⟨rfl,LK',q,b6,f6⟩
   exact doq0 q b6 (f6 bm zm mk) m3 fm bx (fun b' h1 h2=>f6 b' h1 h2.k)
 ·rw [stepAtM _ _ _ _ _ _ (by omega)]
  have hce:∀ V,Below w.heap.size w V→Calls Tryz.prog 160 #[.pointer (some ⟨R,0,none⟩),.agg #[.int .i64 s.o,.int .i64 s.r,.int .i64 s.a,.int .i64 s.b,.int .i64 s.n]] V fun e w'=>e=.returned (.int .i64 (cellM k s))∧Below V.heap.size V w':=fun V hV=>cellOf_any s k _ (hR.below hV) (fun i hi=>(hV.cell (p:=⟨gr,i,none⟩) hR.zr).trans (rr i hi)) hok (by omega)
  obtain ⟨o,r,a,b,n⟩:=s
  simp only at e hok' hce ⊢
  subst e
  by_cases hcl:0≤cellM k ⟨7,r,a,b,n⟩∧cellM k ⟨7,r,a,b,n⟩≤23
  ·rw [if_pos hcl]
   obtain ⟨c,hc⟩:∃ c:Nat,cellM k ⟨7,r,a,b,n⟩=c:=⟨(cellM k ⟨7,r,a,b,n⟩).toNat,by omega⟩
   rw [hc] at hce hcl ⊢
   simp only [Int.toNat_natCast]
   have hc24:c < 24:=by omega
   obtain ⟨lr,hlr⟩:∃ lr,d.mem[c]? =some lr:=⟨_,List.getElem?_eq_getElem (by omega)⟩
   have hgd:d.mem.getD c []=lr:=by rw [List.getD_eq_getElem?_getD,hlr];rfl
   have hSn:=h.m.n
   obtain ⟨r1,hr1⟩:∃ r1,S[c]? =some r1:=⟨_,List.getElem?_eq_getElem (by omega)⟩
   have hro:=(h.m.r c r1 lr hr1 hlr).own
   have rk:r1.val.ownBlock≠some gk:=fun e=>ownType' hro h.k.row (by decide) e rfl
   have rc:r1.val.ownBlock≠some gc:=fun e=>ownType' hro h.c.row (by decide) e rfl
   have rm:r1.val.ownBlock≠some bm:=own_bw hro (by decide) bx
   have h4:lr.length≤4000:=by
    obtain ⟨-,l9,hl9,-,-,h4,-⟩:=memB_at hmem hc24
    rw [hlr] at hl9
    injection hl9 with hl9
    subst hl9
    exact h4
   have KQ:∀ V,Below w.heap.size w V→MQ V B Hq (.slice (some ⟨gc,0,none⟩) d.codes.length cc) (.slice (some ⟨gk,0,none⟩) LK.length ck) (.slice (some ⟨gO,0,none⟩) d.mem.length cO) (.slice sT d.tr.length cT) LC LK S d:=fun V hV=>h.keep (w':=V) (fun b _ h1=>hV.block b h1) hV.size
   rw [hgd]
   obtain ⟨b',hb'⟩:∃ b':Nat,b=b':=⟨b.toNat,by omega⟩
   subst hb'
   by_cases hf:lr.length=4000
   ·rw [if_pos ⟨by decide,hf⟩]
    refine Calls.mono (doMn 7 r a b' n c (by omega) hR h rfl hx hn8 hpn hB hce (by omega) (fun V w'=>Below V.heap.size V w') (fun V hV=>?_)) ?_
    ·exact touch7n c b' r a n _ lr r1 (hR.below hV) (KQ V hV) hx hvl hmem hc24 (by omega) ((hV.cell (p:=⟨gr,b',none⟩) hR.zr).trans (rr b' (by omega))) hlr hr1 (by omega) (by have:=hV.size;omega)
    ·rintro e w' ⟨rfl,V,hV,hV'⟩
     have b6:Below w.heap.size w w':=hV.trans (hV'.mono hV.size)
     have q:=h.keep (w':=w') (fun b _ h1=>b6.block b h1) b6.size
     rw [← putK_self hk] at q
     exact doq3 (LK':=LK) q rfl (fun _ _=>rfl) hx (b6.mono hB) (b6.block bm zm) m3 fm bx (fun b' h1 _=>b6.block b' h1)
   ·rw [if_neg (fun e=>hf e.2)]
    refine Calls.mono (doMy 7 r a b' n c (by omega) hR h rfl hx hn8 hpn hB hce (by omega) { putK d who { k with vw:=k.vw.set c (lr.length:Int) } with mem:=d.mem.set c (lr++[⟨k.regs.getD b' 0,toldL k.vw c lr.length true⟩]) } { k with vw:=k.vw.set c (lr.length:Int) } (fun b'=>b'=gv∨b'=gO∨r1.val.ownBlock=some b') (fun V hV=>?_) (by rintro (e | e | e);exact oR.v e;exact oR.o e;exact oR.s c r1 hr1 e) (by rintro (e | e | e);exact mv e;exact mo e;exact rm e) (by rintro (e | e | e);exact n8 e.symm;exact n6 e;exact rk e) (by rintro (e | e | e);exact n9 e.symm;exact n7 e;exact rc e)) ?_
    ·refine Calls.mono (touch7y c b' r a n _ lr r1 (hR.below hV) (KQ V hV) hx hvl hmem hc24 (by omega) ((hV.cell (p:=⟨gr,b',none⟩) hR.zr).trans (rr b' (by omega))) hlr hr1 (by omega) (by have:=hV.size;omega)) ?_
     rintro e w' ⟨rfl,r',q,b6,f6⟩
     exact ⟨rfl,_,_,q,set_at hx,by simp,b6,fun b' h1 h2=>f6 b' (by have:=hV.size;omega) (fun e=>h2 (.inl e)) (fun e=>h2 (.inr (.inl e))) (fun e=>h2 (.inr (.inr e)))⟩
    ·rintro e w' ⟨rfl,LK',S',q,b6,f6⟩
     have E:goM (memS d late k ⟨7,r,a,b',n⟩ c).1 who (memS d late k ⟨7,r,a,b',n⟩ c).2 code.length (k.pc+1)=goM { putK d who { k with vw:=k.vw.set c (lr.length:Int) } with mem:=d.mem.set c (lr++[⟨k.regs.getD b' 0,toldL k.vw c lr.length true⟩]) } who { k with vw:=k.vw.set c (lr.length:Int) } code.length ((p:Int)+1):=by
      show _=goM (putK { d with mem:=d.mem.set c (lr++[⟨k.regs.getD b' 0,toldL k.vw c lr.length true⟩]) } who { k with vw:=k.vw.set c (lr.length:Int) }) who { k with vw:=k.vw.set c (lr.length:Int) } code.length ((p:Int)+1)
      rw [goM_put,← hp]
      unfold memS stM stW regA
      dsimp only
      rw [if_neg (by decide),if_neg (by decide),hgd]
      all_goals rfl
     rw [E]
     exact doq0 q b6 (f6 bm zm (by rintro (e | e | e);exact mv e;exact mo e;exact rm e) mk) m3 fm bx (fun b' h1 h2=>f6 b' h1 (by rintro (e | e | e);exact h2.v e;exact h2.o e;exact h2.s c r1 hr1 e) h2.k)
  ·rw [if_neg hcl]
   refine Calls.mono (doMo 7 r a b n _ (by omega) hR h rfl hx hn8 hpn hB hce (by omega)) ?_
   rintro e w' ⟨rfl,LK',q,b6,f6⟩
   exact doq0 q b6 (f6 bm zm mk) m3 fm bx (fun b' h1 h2=>f6 b' h1 h2.k)
 ·rw [stepAtM _ _ _ _ _ _ (by omega)]
  have hce:∀ V,Below w.heap.size w V→Calls Tryz.prog 160 #[.pointer (some ⟨R,0,none⟩),.agg #[.int .i64 s.o,.int .i64 s.r,.int .i64 s.a,.int .i64 s.b,.int .i64 s.n]] V fun e w'=>e=.returned (.int .i64 (cellM k s))∧Below V.heap.size V w':=fun V hV=>cellOf_any s k _ (hR.below hV) (fun i hi=>(hV.cell (p:=⟨gr,i,none⟩) hR.zr).trans (rr i hi)) hok (by omega)
  obtain ⟨o,r,a,b,n⟩:=s
  simp only at e hok' hce ⊢
  subst e
  by_cases hcl:0≤cellM k ⟨8,r,a,b,n⟩∧cellM k ⟨8,r,a,b,n⟩≤23
  ·rw [if_pos hcl]
   obtain ⟨c,hc⟩:∃ c:Nat,cellM k ⟨8,r,a,b,n⟩=c:=⟨(cellM k ⟨8,r,a,b,n⟩).toNat,by omega⟩
   rw [hc] at hce hcl ⊢
   simp only [Int.toNat_natCast]
   have hc24:c < 24:=by omega
   obtain ⟨lr,hlr⟩:∃ lr,d.mem[c]? =some lr:=⟨_,List.getElem?_eq_getElem (by omega)⟩
   have hgd:d.mem.getD c []=lr:=by rw [List.getD_eq_getElem?_getD,hlr];rfl
   have hSn:=h.m.n
   obtain ⟨r1,hr1⟩:∃ r1,S[c]? =some r1:=⟨_,List.getElem?_eq_getElem (by omega)⟩
   have hro:=(h.m.r c r1 lr hr1 hlr).own
   have rk:r1.val.ownBlock≠some gk:=fun e=>ownType' hro h.k.row (by decide) e rfl
   have rc:r1.val.ownBlock≠some gc:=fun e=>ownType' hro h.c.row (by decide) e rfl
   have rm:r1.val.ownBlock≠some bm:=own_bw hro (by decide) bx
   have h4:lr.length≤4000:=by
    obtain ⟨-,l9,hl9,-,-,h4,-⟩:=memB_at hmem hc24
    rw [hlr] at hl9
    injection hl9 with hl9
    subst hl9
    exact h4
   have KQ:∀ V,Below w.heap.size w V→MQ V B Hq (.slice (some ⟨gc,0,none⟩) d.codes.length cc) (.slice (some ⟨gk,0,none⟩) LK.length ck) (.slice (some ⟨gO,0,none⟩) d.mem.length cO) (.slice sT d.tr.length cT) LC LK S d:=fun V hV=>h.keep (w':=V) (fun b _ h1=>hV.block b h1) hV.size
   rw [hgd]
   obtain ⟨b',hb'⟩:∃ b':Nat,b=b':=⟨b.toNat,by omega⟩
   subst hb'
   obtain ⟨r',hr'⟩:∃ r':Nat,r=r':=⟨r.toNat,by omega⟩
   subst hr'
   have hcn:n=c:=by
    rw [← hc]
    unfold cellM
    rw [if_neg (by simp)]
   subst hcn
   by_cases hf:lr.length=4000
   ·rw [if_pos ⟨by decide,hf⟩]
    refine Calls.mono (doMn 8 r' a b' c c (by omega) hR h rfl hx hn8 hpn hB hce (by omega) (fun V w'=>∃ LK' k',MQ w' B Hq (.slice (some ⟨gc,0,none⟩) d.codes.length cc) (.slice (some ⟨gk,0,none⟩) LK.length ck) (.slice (some ⟨gO,0,none⟩) d.mem.length cO) (.slice sT d.tr.length cT) LC LK' S (putK d who k')∧LK'[who]? =some ⟨k',.slice (some ⟨gr,0,none⟩) 8 cr,.slice (some ⟨gv,0,none⟩) 24 cv⟩∧(LK'.length=LK.length∧∀ j,j≠who→LK'[j]? =LK[j]?)∧Below B V w'∧∀ b',b' < V.heap.size→b'≠gv→b'≠gr→w'.heap[b']? =V.heap[b']?) (fun V hV=>?_)) ?_
    ·refine Calls.mono (touch8n c r' b' a _ lr r1 (hR.below hV) (KQ V hV) hx h8 hvw hmem hc24 (by omega) (by omega) ((hV.cell (p:=⟨gr,b',none⟩) hR.zr).trans (rr b' (by omega))) hlr hr1 (by omega) (by have:=hV.size;omega) oR.v mv oR.r mr (Ne.symm n8) (Ne.symm n9) (Ne.symm n2) (Ne.symm n1)) ?_
     rintro e w' ⟨rfl,LK',q,x,l,b6,f6⟩
     exact ⟨rfl,LK',_,q,x,l,b6,f6⟩
    ·rintro e w' ⟨rfl,V,hV,LK',k',q,x8,⟨l1,l2⟩,b6,f6⟩
     have f6':∀ b',b' < w.heap.size→b'≠gv→b'≠gr→w'.heap[b']? =w.heap[b']? :=fun b' h1 h2 h3=>(f6 b' (by have:=hV.size;omega) h2 h3).trans (hV.block b' h1)
     exact doq3 q l1 l2 x8 ((hV.mono hB).trans b6) (f6' bm zm mv mr) m3 fm bx (fun b' h1 h2=>f6' b' h1 h2.v h2.r)
   ·rw [if_neg (fun e=>hf e.2)]
    refine Calls.mono (doMy 8 r' a b' c c (by omega) hR h rfl hx hn8 hpn hB hce (by omega) { putK d who ⟨k.pc,k.regs.set r' (ldX d.mem k.vw c 0).v,(ldW d.mem k.vw c 0 true).set c (lr.length:Int),k.st⟩ with mem:=d.mem.set c (lr++[⟨k.regs.getD b' 0,toldL (ldW d.mem k.vw c 0 true) c lr.length true⟩]) } ⟨k.pc,k.regs.set r' (ldX d.mem k.vw c 0).v,(ldW d.mem k.vw c 0 true).set c (lr.length:Int),k.st⟩ (fun b'=>b'=gv∨b'=gr∨b'=gO∨r1.val.ownBlock=some b') (fun V hV=>?_) (by rintro (e | e | e | e);exact oR.v e;exact oR.r e;exact oR.o e;exact oR.s c r1 hr1 e) (by rintro (e | e | e | e);exact mv e;exact mr e;exact mo e;exact rm e) (by rintro (e | e | e | e);exact n8 e.symm;exact n2 e.symm;exact n6 e;exact rk e) (by rintro (e | e | e | e);exact n9 e.symm;exact n1 e.symm;exact n7 e;exact rc e)) ?_
    ·refine Calls.mono (touch8y c r' b' a _ lr r1 (hR.below hV) (KQ V hV) hx h8 hvw hmem hc24 (by omega) (by omega) ((hV.cell (p:=⟨gr,b',none⟩) hR.zr).trans (rr b' (by omega))) hlr hr1 (by omega) (by have:=hV.size;omega) oR.v mv oR.r mr (Ne.symm n8) (Ne.symm n9) (Ne.symm n2) (Ne.symm n1)) ?_
     rintro e w' ⟨rfl,LK',rs',q,x,l,b6,f6⟩
     exact ⟨rfl,LK',_,q,x,l,b6,fun b' h1 h2=>f6 b' (by have:=hV.size;omega) (fun e=>h2 (.inl e)) (fun e=>h2 (.inr (.inl e))) (fun e=>h2 (.inr (.inr (.inl e)))) (fun e=>h2 (.inr (.inr (.inr e))))⟩
    ·rintro e w' ⟨rfl,LK',S',q,b6,f6⟩
     have E:goM (memS d late k ⟨8,r',a,b',c⟩ c).1 who (memS d late k ⟨8,r',a,b',c⟩ c).2 code.length (k.pc+1)=goM { putK d who ⟨k.pc,k.regs.set r' (ldX d.mem k.vw c 0).v,(ldW d.mem k.vw c 0 true).set c (lr.length:Int),k.st⟩ with mem:=d.mem.set c (lr++[⟨k.regs.getD b' 0,toldL (ldW d.mem k.vw c 0 true) c lr.length true⟩]) } who ⟨k.pc,k.regs.set r' (ldX d.mem k.vw c 0).v,(ldW d.mem k.vw c 0 true).set c (lr.length:Int),k.st⟩ code.length ((p:Int)+1):=by
      show _=goM (putK { d with mem:=d.mem.set c (lr++[⟨k.regs.getD b' 0,toldL (ldW d.mem k.vw c 0 true) c lr.length true⟩]) } who ⟨k.pc,k.regs.set r' (ldX d.mem k.vw c 0).v,(ldW d.mem k.vw c 0 true).set c (lr.length:Int),k.st⟩) who ⟨k.pc,k.regs.set r' (ldX d.mem k.vw c 0).v,(ldW d.mem k.vw c 0 true).set c (lr.length:Int),k.st⟩ code.length ((p:Int)+1)
      rw [goM_put,← hp]
      unfold memS stM stW regA
      dsimp only
      rw [if_neg (by decide),if_pos rfl,hgd]
      all_goals rfl
     rw [E]
     exact doq0 q b6 (f6 bm zm (by rintro (e | e | e | e);exact mv e;exact mr e;exact mo e;exact rm e) mk) m3 fm bx (fun b' h1 h2=>f6 b' h1 (by rintro (e | e | e | e);exact h2.v e;exact h2.r e;exact h2.o e;exact h2.s c r1 hr1 e) h2.k)
  ·rw [if_neg hcl]
   refine Calls.mono (doMo 8 r a b n _ (by omega) hR h rfl hx hn8 hpn hB hce (by omega)) ?_
   rintro e w' ⟨rfl,LK',q,b6,f6⟩
   exact doq0 q b6 (f6 bm zm mk) m3 fm bx (fun b' h1 h2=>f6 b' h1 h2.k)
end
section
set_option linter.unusedSimpArgs false
set_option linter.unusedVariables false
set_option maxRecDepth 100000
open Go.RowKit
theorem below_pair4 {w w':World} {g j0 j1 j2 j3:Nat} {v0 v1 v2 v3:Value} (h:Below w.heap.size w w'):Below w.heap.size ((((w.setCell ⟨g,j0,none⟩ v0).setCell ⟨g,j1,none⟩ v1).setCell ⟨g,j2,none⟩ v2).setCell ⟨g,j3,none⟩ v3) ((((w'.setCell ⟨g,j0,none⟩ v0).setCell ⟨g,j1,none⟩ v1).setCell ⟨g,j2,none⟩ v2).setCell ⟨g,j3,none⟩ v3):=
 ⟨h.os,h.tape,h.output,by simpa using h.size,fun b hb=>heap_pair (heap_pair (heap_pair (heap_pair (h.block b hb))))⟩
theorem back_idle {w : World} {c0 c1 c2 : Nat} (u : FrameMode) (hc : w.cell? ⟨c0, 0, none⟩ = some (.int .i64 0)) :
  CallsD Tryz.prog 157 #[.pointer (some ⟨c0,0,none⟩),.pointer (some ⟨c1,0,none⟩),.pointer (some ⟨c2,0,none⟩)] u w fun e u' w'=>u'=u∧(e=.returned (.tuple #[])∧Below w.heap.size w w'):=by
 go_enter_d Tryz.func157,Tryz.ntmps157
 go_wp2
 go_end0
 exact ⟨rfl,Below.refl _ _⟩
theorem back_do {w : World} {c0 c1 c2 R g j n1 b1 n2 b2 : Nat} {a1 a2 : Option Addr} {pc st : Int} {o0 o1 o2 o3 : Value} (z : Int) (u : FrameMode) (hc : w.cell? ⟨c0, 0, none⟩ = some (.int .i64 z)) (hz : ¬ z = 0) (h0 : w.cell? ⟨c1, 0, none⟩ = some (.int .i64 pc)) (h1 : w.cell? ⟨c1, 1, none⟩ = some (.slice a1 n1 b1)) (h2 : w.cell? ⟨c1, 2, none⟩ = some (.slice a2 n2 b2)) (h3 : w.cell? ⟨c1, 3, none⟩ = some (.int .i64 st)) (hr : w.cell? ⟨c2, 0, none⟩ = some (.pointer (some ⟨R, 0, none⟩))) (hR : w.cell? ⟨R, 1, none⟩ = some (.pointer (some ⟨g, j, none⟩))) (fg : ∀ i, w.frozen? ⟨g, i, none⟩ = false) (g0 : w.cell? ⟨g, j, none⟩ = some o0) (g1 : w.cell? ⟨g, j + 1, none⟩ = some o1) (g2 : w.cell? ⟨g, j + 2, none⟩ = some o2) (g3 : w.cell? ⟨g, j + 3, none⟩ = some o3) (z1 : c1 < w.heap.size) (z2 : c2 < w.heap.size) (zR : R < w.heap.size) (zg : g < w.heap.size) :
  CallsD Tryz.prog 157 #[.pointer (some ⟨c0,0,none⟩),.pointer (some ⟨c1,0,none⟩),.pointer (some ⟨c2,0,none⟩)] u w fun e u' w'=>u'=u∧(e=.returned (.tuple #[])∧Below w.heap.size ((((w.setCell ⟨g,j,none⟩ (.int .i64 pc)).setCell ⟨g,j+1,none⟩ (.slice a1 n1 b1)).setCell ⟨g,j+2,none⟩ (.slice a2 n2 b2)).setCell ⟨g,j+3,none⟩ (.int .i64 st)) w'):=by
 go_enter_d Tryz.func157,Tryz.ntmps157
 go_wp2_with fail
 have hne:=ext_ne w
 have u0:=Ext.fit h0 z1
 have u1:=Ext.fit h1 z1
 have u2:=Ext.fit h2 z1
 have u3:=Ext.fit h3 z1
 have u4:=Ext.fit hr z2
 have u5:=Ext.fit hR zR
 refine regionLast w _ rfl (by kernel_rfl) (by kernel_rfl) (by kernel_rfl) rfl rfl ?_
 dsimp only [List.dropLast,List.cons_append,List.nil_append,idle]
 repeat (go_big_quiet_step (fail))
 refine wpQuiet_nil ?_
 rintro w3 ⟨X3,rfl⟩
 obtain ⟨V,hV⟩:∃ V,X3.w=V:=⟨_,rfl⟩
 have hb:=X3.b
 rw [hV] at hb ⊢
 have HB:=hidM1 hb
 have q0:=(hb.cell (p:=⟨g,j,none⟩) zg).trans g0
 have q1:=(hb.cell (p:=⟨g,j+1,none⟩) zg).trans g1
 have q2:=(hb.cell (p:=⟨g,j+2,none⟩) zg).trans g2
 have q3:=(hb.cell (p:=⟨g,j+3,none⟩) zg).trans g3
 have fq:∀ i,V.frozen? ⟨g,i,none⟩=false:=fun i=>(hb.frozen (p:=⟨g,i,none⟩) zg).trans (fg i)
 clear hne u0 u1 u2 u3 u4 u5 hV hb X3 g0 g1 g2 g3 fg h0 h1 h2 h3 hr hR hc
 go_wp2
 go_end0
 refine ⟨rfl,?_⟩
 exact below_pair4 HB.out
end
section
set_option linter.unusedSimpArgs false
set_option linter.unusedVariables false
set_option maxRecDepth 100000
open Go.RowKit
theorem Op8.below {w w':World} {B:Nat} {vc vk vm vt:Value} {LK:List KV} {d:MD} {who p:Nat} {k:KD} {code:List I5} {s:I5} {gc cc gk ck gs cs gr cr gv cv gO cO:Nat} {st:Option Addr} {ct:Nat} (o:Op8 w B vc vk vm vt LK d who p k code s gc cc gk ck gs cs gr cr gv cv gO cO st ct) (hb:Below w.heap.size w w'):Op8 w' B vc vk vm vt LK d who p k code s gc cc gk ck gs cs gr cr gv cv gO cO st ct:=by
 have hs:=hb.size
 have c:∀ b j,b < w.heap.size→w'.cell? ⟨b,j,none⟩=w.cell? ⟨b,j,none⟩:=fun b j hb'=>hb.cell (p:=⟨b,j,none⟩) hb'
 have f:∀ b j,b < w.heap.size→w'.frozen? ⟨b,j,none⟩=w.frozen? ⟨b,j,none⟩:=fun b j hb'=>hb.frozen (p:=⟨b,j,none⟩) hb'
 exact ⟨o.ec,o.ek,o.em,o.et,o.hx,o.hp,o.wc,o.wk,(c _ _ o.zc).trans o.c0,(c _ _ o.zk).trans o.k0,(c _ _ o.zk).trans o.k1,(c _ _ o.zk).trans o.k2,(c _ _ o.zk).trans o.k3,(c _ _ o.zs).trans o.s0,(c _ _ o.zs).trans o.s1,(c _ _ o.zs).trans o.s2,(c _ _ o.zs).trans o.s3,(c _ _ o.zs).trans o.s4,fun i hi=>(c _ _ o.zr).trans (o.r i hi),fun j=>(f _ _ o.zk).trans (o.fk j),fun j=>(f _ _ o.zr).trans (o.fr j),Nat.lt_of_lt_of_le o.zc hs,Nat.lt_of_lt_of_le o.zk hs,Nat.lt_of_lt_of_le o.zs hs,Nat.lt_of_lt_of_le o.zr hs,Nat.lt_of_lt_of_le o.zv hs,Nat.lt_of_lt_of_le o.zO hs,o.bk,o.br,o.bv,o.bO⟩
theorem OW.blk {w:World} {B:Nat} {v:Value} {S:List RS} {m:List (List WD)} (h:OW w B v S m):∀ a∈mAs S,a.block < w.heap.size:=fun a ha=>by
 obtain ⟨r,hr,har⟩:=mem_mAs.1 ha
 obtain ⟨i,hi⟩:=List.mem_iff_getElem?.1 hr
 have hl:=(List.getElem?_eq_some_iff.1 hi).1
 have hn:=h.n
 obtain ⟨l,hl2⟩:∃ l,m[i]? =some l:=⟨_,List.getElem?_eq_getElem (by omega)⟩
 exact ((h.r i r l hi hl2).ro.blk har).2
/- a store into a box of an integer that is none of the machine's -/
theorem MQ0.offI {w w':World} {B b:Nat} {vc vk vm vt:Value} {LC:List CV} {LK:List KV} {S:List RS} {d:MD} (h:MQ0 w B vc vk vm vt LC LK S d) (ht:TyB w b 3) (h1:∀ (i:Nat) (x:KV),LK[i]? =some x→x.r.ownBlock≠some b∧x.v.ownBlock≠some b) (h2:∀ a∈mAs S,a.block≠b) (hk:∀ q,q≠b→w'.heap[q]? =w.heap[q]?) (hs:w.heap.size≤w'.heap.size):MQ0 w' B vc vk vm vt LC LK S d:=by
 have ne:∀ {e:TypeId} {size n:Nat} {u':Value} {xs:List Value},w.ownsRow B e size u' n xs→e≠3→∀ q,u'.ownBlock=some q→w'.heap[q]? =w.heap[q]? :=fun hu he q hq=>hk q (fun e=>own_tb hu he ht (by rw [hq,e]))
 have nw:∀ {u':Value} {xs:List Int},OwnN w B u' xs→u'.ownBlock≠some b→∀ q,u'.ownBlock=some q→w'.heap[q]? =w.heap[q]? :=fun _ he q hq=>hk q (fun e=>he (by rw [hq,e]))
 refine ⟨⟨ownKeep' h.c.row (ne h.c.row (by decide)),fun i x hx=>ownKeep' (h.c.inn i x hx) (ne (h.c.inn i x hx) (by decide)),h.c.sep⟩,h.ec,⟨ownKeep' h.k.row (ne h.k.row (by decide)),fun i x hx=>⟨ownKeep' (h.k.inn i x hx).1 (nw (h.k.inn i x hx).1 (h1 i x hx).1),ownKeep' (h.k.inn i x hx).2 (nw (h.k.inn i x hx).2 (h1 i x hx).2)⟩,h.k.two,h.k.sep⟩,h.ek,?_,ownKeep' h.t (ne h.t (by decide)),h.sk⟩
 refine ⟨h.m.n,ownKeep' h.m.row (ne h.m.row (by decide)),fun i' r l hr hl=>?_,h.m.d⟩
 have q:=h.m.r i' r l hr hl
 refine q.kept (ne q.own (by decide)) (fun a ha=>hk _ (h2 a (mem_mAs.2 ⟨r,List.mem_of_getElem? hr,mem_rAs.2 (.inr (mem_vsA.1 ha))⟩))) hs
theorem MQ.offI {Hq:Nat→Prop} {w w':World} {B b:Nat} {vc vk vm vt:Value} {LC:List CV} {LK:List KV} {S:List RS} {d:MD} (h:MQ w B Hq vc vk vm vt LC LK S d) (ht:TyB w b 3) (h1:∀ (i:Nat) (x:KV),LK[i]? =some x→x.r.ownBlock≠some b∧x.v.ownBlock≠some b) (h2:∀ a∈mAs S,a.block≠b) (hk:∀ q,q≠b→w'.heap[q]? =w.heap[q]?) (hs:w.heap.size≤w'.heap.size):MQ w' B Hq vc vk vm vt LC LK S d:=⟨h.toMQ0.offI ht h1 h2 hk hs,h.hh,fun q hq=>h.hn q (Nat.le_trans hs hq)⟩
/- a box of one cell is no row of a right machine -/
theorem MQ0.one {w:World} {B b:Nat} {vc vk vm vt:Value} {LC:List CV} {LK:List KV} {S:List RS} {d:MD} (h:MQ0 w B vc vk vm vt LC LK S d) (hm:machB d=true) (ht:TyB w b 3) (h1:∀ j,1≤j→w.cell? ⟨b,j,none⟩=none):(∀ (i:Nat) (x:KV),LK[i]? =some x→x.r.ownBlock≠some b∧x.v.ownBlock≠some b)∧∀ a∈mAs S,a.block≠b:=by
 have row:∀ {u:Value} {l:List Int},OwnN w B u l→2≤l.length→u.ownBlock≠some b:=fun {u l} ho hl e=>by
  have ho':=ho
  unfold OwnN at ho'
  obtain ⟨g,c,hv,-⟩:=World.ownsRow.form ho' (by omega)
  subst hv
  have eg:g=b:=by simpa [Value.ownBlock] using e
  subst eg
  have q:=OwnN.cell ho (i:=1) (by omega)
  rw [h1 1 (by omega)] at q
  cases q
 have hl:=mach_len hm
 have lk:LK.length=d.cores.length:=by rw [← h.ek,List.length_map]
 refine ⟨fun i x hx=>?_,fun a ha e=>?_⟩
 ·have hi:=(List.getElem?_eq_some_iff.1 hx).1
  obtain ⟨k,code,s,ha⟩:=mach_at hm (who:=i) (by omega)
  have ex:x.d=k:=by
   have q:=ha.hk
   rw [← h.ek,List.getElem?_map,hx] at q
   simpa using q
  have m24:=(memB_at ha.mem (i:=0) (by omega)).1
  have v24:=(viewB_iff.1 ha.vw).1
  have r8:=ha.regs
  rw [← ex] at v24 r8
  exact ⟨row (h.k.inn i x hx).1 (by omega),row (h.k.inn i x hx).2 (by omega)⟩
 ·obtain ⟨r,hr,har⟩:=mem_mAs.1 ha
  obtain ⟨i,hi⟩:=List.mem_iff_getElem?.1 hr
  have hl2:=(List.getElem?_eq_some_iff.1 hi).1
  have hn:=h.m.n
  obtain ⟨l,hl3⟩:∃ l,d.mem[i]? =some l:=⟨_,List.getElem?_eq_getElem (by omega)⟩
  have q:=h.m.r i r l hi hl3
  have hmem:memB d.mem=true:=by
   unfold machB at hm
   simp only [Bool.and_eq_true] at hm
   exact hm.2.2.2
  rcases mem_rAs.1 har with ⟨j,hj,ej⟩ | ⟨x,hx,hax⟩
  ·obtain ⟨g,c,hv,-⟩:=World.ownsRow.form q.own (by omega)
   have hs:r.s=some ⟨g,0,none⟩:=by
    have:=hv
    unfold RS.val at this
    injection this
   rw [hs] at ej
   have eb:b=g:=by rw [← e,ej];rfl
   refine own_tb q.own (by decide) ht ?_
   rw [hv,eb]
   rfl
  ·obtain ⟨j,hj⟩:=List.mem_iff_getElem?.1 hx
   have hj2:=(List.getElem?_eq_some_iff.1 hj).1
   have hn2:=q.n
   obtain ⟨y,hy⟩:∃ y,l[j]? =some y:=⟨_,List.getElem?_eq_getElem (by omega)⟩
   have vo:=q.v j x y hj hy
   have h24:y.vw.length=24:=by
    unfold memB at hmem
    rw [Bool.and_eq_true,List.all_eq_true,decide_eq_true_eq] at hmem
    have q2:=hmem.2 l (List.mem_of_getElem? hl3)
    unfold rowB at q2
    rw [Bool.and_eq_true,List.all_eq_true] at q2
    have q3:=(viewB_iff.1 (q2.2 y (List.mem_of_getElem? hy))).1
    omega
   rcases vo.c with e0 | ⟨g,o,es,-,-,hc⟩
   ·rw [e0] at h24;cases h24
   ·unfold vAs at hax
    rw [es] at hax
    obtain ⟨i9,-,e9⟩:=List.mem_map.1 hax
    have eg:g=b:=by rw [← e,← e9];rfl
    have c1:=(hc 1 (by omega)).1
    rw [eg,h1 (o+1) (by omega)] at c1
    cases c1
end
section
set_option linter.unusedSimpArgs false
set_option linter.unusedVariables false
set_option maxRecDepth 100000
open Go.RowKit
def TurnQ (w:World) (B:Nat) (Hq:Nat→Prop) (bm:Nat) (vc vk vm:Value) (LC:List CV) (x:MD×Int) (e:Ending) (w':World):Prop:=
 e=.returned (.int .i64 x.2)∧∃ vt' LK' S',MQ w' B Hq vc vk vm vt' LC LK' S' x.1∧w'.cell? ⟨bm,5,none⟩=some vt'∧(∀ j,j≠5→w'.cell? ⟨bm,j,none⟩=w.cell? ⟨bm,j,none⟩)∧(∀ j,w'.frozen? ⟨bm,j,none⟩=false)∧BxW w' bm∧Below B w w'∧∀ b,b < w.heap.size→¬ Hq b→b≠bm→w'.heap[b]? =w.heap[b]?
/- the boxes of a turn -/
structure Bt3 (w V:World) (R wb:Nat) (z:Int) (pc st:Int) (a1:Option Addr) (n1 b1:Nat) (a2:Option Addr) (n2 b2:Nat):Prop where
 rb:V.cell? ⟨w.heap.size,0,none⟩=some (.pointer (some ⟨R,0,none⟩))
 cb:V.cell? ⟨w.heap.size+1,0,none⟩=some (.int .i64 z)
 w0:V.cell? ⟨wb,0,none⟩=some (.int .i64 pc)
 w1:V.cell? ⟨wb,1,none⟩=some (.slice a1 n1 b1)
 w2:V.cell? ⟨wb,2,none⟩=some (.slice a2 n2 b2)
 w3:V.cell? ⟨wb,3,none⟩=some (.int .i64 st)
 fc:V.frozen? ⟨w.heap.size+1,0,none⟩=false
 ti:TyB V (w.heap.size+1) 3
 on:∀ j,1≤j→V.cell? ⟨w.heap.size+1,j,none⟩=none
 lo:w.heap.size+1 < wb
 hi:wb < V.heap.size
theorem Bt3.keep {w V V':World} {R wb:Nat} {z pc st:Int} {a1 a2:Option Addr} {n1 b1 n2 b2:Nat} (h:Bt3 w V R wb z pc st a1 n1 b1 a2 n2 b2) (h1:V'.heap[w.heap.size]? =V.heap[w.heap.size]?) (h2:V'.heap[w.heap.size+1]? =V.heap[w.heap.size+1]?) (h3:V'.heap[wb]? =V.heap[wb]?) (hs:V.heap.size≤V'.heap.size):Bt3 w V' R wb z pc st a1 n1 b1 a2 n2 b2:=by
 have k3:∀ j,V'.cell? ⟨wb,j,none⟩=V.cell? ⟨wb,j,none⟩:=fun j=>World.cell?_of_block h3
 have k2:∀ j,V'.cell? ⟨w.heap.size+1,j,none⟩=V.cell? ⟨w.heap.size+1,j,none⟩:=fun j=>World.cell?_of_block h2
 obtain ⟨cs,f,c⟩:=h.ti
 exact ⟨(World.cell?_of_block h1).trans h.rb,(k2 _).trans h.cb,(k3 _).trans h.w0,(k3 _).trans h.w1,(k3 _).trans h.w2,(k3 _).trans h.w3,(World.frozen?_of_block h2).trans h.fc,⟨cs,f,h2.trans c⟩,fun j hj=>(k2 j).trans (h.on j hj),h.lo,Nat.lt_of_lt_of_le h.hi hs⟩
theorem Bt3.put {w V:World} {R wb:Nat} {z pc st:Int} {a1 a2:Option Addr} {n1 b1 n2 b2:Nat} (h:Bt3 w V R wb z pc st a1 n1 b1 a2 n2 b2) (y:Int):Bt3 w (V.setCell ⟨w.heap.size+1,0,none⟩ (.int .i64 y)) R wb y pc st a1 n1 b1 a2 n2 b2:=by
 have hlo:=h.lo
 have kb:∀ b,b≠w.heap.size+1→(V.setCell ⟨w.heap.size+1,0,none⟩ (.int .i64 y)).heap[b]? =V.heap[b]? :=fun b hb=>Below.heap_setCell _ _ _ b hb
 have k3:∀ j,(V.setCell ⟨w.heap.size+1,0,none⟩ (.int .i64 y)).cell? ⟨wb,j,none⟩=V.cell? ⟨wb,j,none⟩:=fun j=>World.cell?_of_block (kb wb (by omega))
 refine ⟨(World.cell?_of_block (kb w.heap.size (by omega))).trans h.rb,World.cell?_setCell_same' V _ _ (by rw [h.cb];rfl),(k3 _).trans h.w0,(k3 _).trans h.w1,(k3 _).trans h.w2,(k3 _).trans h.w3,?_,?_,fun j hj=>?_,hlo,by simpa using h.hi⟩
 ·rw [World.frozen?_setCell];exact h.fc
 ·obtain ⟨cs,f,c⟩:=h.ti
  refine ⟨cs.setIfInBounds 0 (.int .i64 y),f,?_⟩
  simp only [World.setCell,Array.getElem?_modify,c]
  simp
 ·refine (World.cell?_setCell_other _ _ _ _ ?_).trans (h.on j hj)
  intro e
  injection e with _ e
  omega
theorem bt3_new {w A w1:World} {R:Nat} {pc st:Int} {a1 a2:Option Addr} {n1 b1 n2 b2:Nat} (hA:(w.alloc (.cells #[.pointer (some ⟨R,0,none⟩)] 209)).alloc (.cells #[.int .i64 0] 3)=A) (hb:Below A.heap.size A w1):Bt3 w (w1.alloc (.cells #[.int .i64 pc,.slice a1 n1 b1,.slice a2 n2 b2,.int .i64 st] 53)) R w1.heap.size 0 pc st a1 n1 b1 a2 n2 b2∧Below w.heap.size w (w1.alloc (.cells #[.int .i64 pc,.slice a1 n1 b1,.slice a2 n2 b2,.int .i64 st] 53)):=by
 have zA:A.heap.size=w.heap.size+1+1:=by subst hA;simp
 have s1:=hb.size
 have kA:Below w.heap.size w A:=by subst hA;exact ((Below.refl _ _).alloc (Nat.le_refl _) _).alloc (by simp) _
 have kc:∀ b,b < A.heap.size→(w1.alloc (.cells #[.int .i64 pc,.slice a1 n1 b1,.slice a2 n2 b2,.int .i64 st] 53)).heap[b]? =A.heap[b]? :=fun b h=>(Below.heap_alloc _ _ _ (by omega)).trans (hb.block b h)
 have e1:(w.alloc (.cells #[.pointer (some ⟨R,0,none⟩)] 209)).heap.size=w.heap.size+1:=by simp
 refine ⟨⟨?_,?_,?_,?_,?_,?_,?_,?_,fun j hj=>?_,by omega,by simp⟩,(kA.trans (hb.mono (by omega))).alloc (by omega) _⟩
 ·refine (World.cell?_of_block (kc w.heap.size (by omega))).trans ?_
  subst hA;simp [go_sem]
 ·refine (World.cell?_of_block (kc (w.heap.size+1) (by omega))).trans ?_
  subst hA;simp [go_sem]
 ·simp [go_sem]
 ·simp [go_sem]
 ·simp [go_sem]
 ·simp [go_sem]
 ·refine (World.frozen?_of_block (kc (w.heap.size+1) (by omega))).trans ?_
  subst hA;simp [go_sem]
 ·refine ⟨#[.int .i64 0],(0,0),(kc (w.heap.size+1) (by omega)).trans ?_⟩
  subst hA
  rw [← e1]
  exact heap_alloc_new _ _
 ·refine (World.cell?_of_block (kc (w.heap.size+1) (by omega))).trans ?_
  have:A.heap[w.heap.size+1]? =some (.cells #[.int .i64 0] 3 (0,0)):=by
   subst hA
   rw [← e1]
   exact heap_alloc_new _ _
  unfold World.cell?
  simp only [this]
  simp
  omega
/- a turn that is refused: the core as it was, its rows new -/
theorem back_any {Hq : Nat → Prop} {w V : World} {B R p gc cc gk ck gs cs gr cr gv cv gO cO cT who wb : Nat} {sT : Option Addr} {vc vk vm vt : Value} {LC : List CV} {LK LK' : List KV} {S : List RS} {d : MD} {k k' : KD} {code : List I5} {s : I5} {a1 a2 : Option Addr} {b1 b2 : Nat} (h : MQ w B Hq vc vk vm vt LC LK S d) (ha : At8 d who k code s) (O : Op8 w B vc vk vm vt LK d who p k code s gc cc gk ck gs cs gr cr gv cv gO cO sT cT) (q : MQ V B Hq vc vk vm vt LC LK' S (putK d who k')) (hl : LK'.length = LK.length) (hj : ∀ j, j ≠ who → LK'[j]? = LK[j]?) (bt : Bt3 w V R wb 3 k.pc k.st a1 8 b1 a2 24 b2) (hR : V.cell? ⟨R, 1, none⟩ = some (.pointer (some ⟨gk, who * 4, none⟩))) (zR : R < V.heap.size) (zV : w.heap.size ≤ V.heap.size)
  (o1:OwnN V (w.heap.size+1+1) (.slice a1 8 b1) k.regs) (o2:OwnN V (w.heap.size+1+1) (.slice a2 24 b2) k.vw) (o12:∀ q,(Value.slice a1 8 b1).ownBlock=some q→(Value.slice a2 24 b2).ownBlock≠some q) (hB:B≤w.heap.size) (u:FrameMode):
  CallsD Tryz.prog 157 #[.pointer (some ⟨w.heap.size+1,0,none⟩),.pointer (some ⟨wb,0,none⟩),.pointer (some ⟨w.heap.size,0,none⟩)] u V fun e u' w'=>u'=u∧(e=.returned (.tuple #[])∧(∃ LK'',MQ w' B Hq vc vk vm vt LC LK'' S d)∧(∀ b,b < V.heap.size→b≠gk→w'.heap[b]? =V.heap[b]?)∧V.heap.size≤w'.heap.size∧∀ a,Below B a V→Below B a w'):=by
 have ek:=O.ek
 subst ek
 have wk:=O.wk
 have wl:who < LK'.length:=by omega
 obtain ⟨y,hy⟩:∃ y,LK'[who]? =some y:=⟨_,List.getElem?_eq_getElem wl⟩
 obtain ⟨f0,f1,f2,f3⟩:=flatK_at LK' who y hy
 have row:=q.k.row
 rw [hl] at row
 have bgk:=(World.ownsRow.lt row gk rfl).1
 have zg:=(World.ownsRow.lt row gk rfl).2
 have C:=fun j (hj:j < LK.length * 4)=>World.ownsRow.cellAt row j hj
 have BD:=back_do 3 u bt.cb (by decide) bt.w0 bt.w1 bt.w2 bt.w3 bt.rb hR (fun i=>World.ownsRow.frozenAt row i) ((C _ (by omega)).trans f0) ((C _ (by omega)).trans f1) ((C _ (by omega)).trans f2) ((C _ (by omega)).trans f3) bt.hi (by have:=bt.lo;have:=bt.hi;omega) zR zg
 refine BD.mono ?_
 rintro e u' w' ⟨rfl,rfl,hb⟩
 have hs:=hb.size
 simp at hs
 refine ⟨rfl,rfl,⟨LK'.set who ⟨k,.slice a1 8 b1,.slice a2 24 b2⟩,?_⟩,fun b h1 h2=>?_,hs,fun a hab=>?_⟩
 ·have far:∀ (v:Value) (l:List Int),OwnN V (w.heap.size+1+1) v l→∀ q',v.ownBlock=some q'→w.heap.size < q':=fun v l ho q' hq'=>by
   have:=(World.ownsRow.lt ho _ hq').1
   omega
  have q2:=MQ.core (F:=w') q hl wl k (.slice a1 8 b1) (.slice a2 24 b2) (ownLow' o1 (by omega)) (ownLow' o2 (by omega)) o12 (fun q' hq'=>?_) (fun b hb'=>hb.block b hb') hs (fun q' hq'=>h.hn q' (Nat.le_of_lt (hq'.elim (far _ _ o1 q') (far _ _ o2 q'))))
  ·rw [putK_putK,putK_self ha.hk] at q2
   exact q2
  ·have lt:w.heap.size < q':=by
    rcases hq' with hq' | hq'
    ·exact far _ _ o1 _ hq'
    ·exact far _ _ o2 _ hq'
   refine ⟨fun j z hjw hz=>?_,fun a ha' e=>?_⟩
   ·rw [hj j hjw] at hz
    rintro (e | e)
    ·have:=(World.ownsRow.lt (h.k.inn j z hz).1 _ e).2;omega
    ·have:=(World.ownsRow.lt (h.k.inn j z hz).2 _ e).2;omega
   ·have:=h.m.blk a ha'
    omega
 ·rw [hb.block b h1]
  exact (Below.heap_setCell _ ⟨gk,_,none⟩ _ b h2).trans ((Below.heap_setCell _ ⟨gk,_,none⟩ _ b h2).trans ((Below.heap_setCell _ ⟨gk,_,none⟩ _ b h2).trans (Below.heap_setCell _ ⟨gk,_,none⟩ _ b h2)))
 ·exact ((((hab.setCell (p:=⟨gk,_,none⟩) bgk _).setCell (p:=⟨gk,_,none⟩) bgk _).setCell (p:=⟨gk,_,none⟩) bgk _).setCell (p:=⟨gk,_,none⟩) bgk _).trans (hb.mono (by omega))
end
end Go.Proofs.YtlbeploopclegaaGreat
