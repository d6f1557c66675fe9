/- A runner of the program goes for memory: a swap. No condition. A runner of the program does a step that turns registers. No condition. A runner of the program jumps, ends, faults. No condition. -/
import Derived.Test.YtlbeploopclegaaGreatPG00
import Derived.Test.YtlbeploopclegaaGreatPMemStore
import Derived.Test.YtlbeploopclegaaGreatPMemOk
import Derived.Test.YtlbeploopclegaaGreatPG01
import Derived.Test.YtlbeploopclegaaGreatPG11
import Derived.Test.YtlbeploopclegaaGreatPG12
import Derived.Test.YtlbeploopclegaaGreatPG14
import Derived.Test.YtlbeploopclegaaGreatPG03
import Derived.Test.YtlbeploopclegaaGreatPG16
import Derived.Test.YtlbeploopclegaaGreatPG13
namespace Go.Proofs.YtlbeploopclegaaGreat
section
set_option linter.unusedSimpArgs false
set_option linter.unusedVariables false
set_option maxRecDepth 100000
open Go.RowKit
set_option maxHeartbeats 2000000 in
theorem touch8y {Hq : Nat → Prop} {w : World} {B R bm gk gc gs gr gv who nn cv cr cs gO cO : Nat} {late : Int} {vc vk vt : Value} {nc cc : Nat} {pc st : Int} {LC : List CV} {LK : List KV} {S : List RS} {d : MD} {k : KD} (c r' b' : Nat) (a vb : Int) (lr : List WD) (r : RS) (h : Rn w R bm gk gc gs gr gv who nn cv cr cs late vc vk (.slice (some ⟨gO, 0, none⟩) d.mem.length cO) vt nc cc pc st) (hq : MQ w B Hq vc vk (.slice (some ⟨gO, 0, none⟩) d.mem.length cO) vt LC LK S d) (hx : LK[who]? = some ⟨k, .slice (some ⟨gr, 0, none⟩) 8 cr, .slice (some ⟨gv, 0, none⟩) 24 cv⟩) (h8 : k.regs.length = 8) (hvw : viewB d.mem k.vw = true) (hmem : memB d.mem = true) (hc : c < 24) (hr' : r' < 8) (hb' : b' < 8) (lb : w.cell? ⟨gr, b', none⟩ = some (.int .i64 vb)) (hlr : d.mem[c]? = some lr) (hr : S[c]? = some r) (hroom : lr.length < 4000) (hB : B ≤ w.heap.size) (nR : R ≠ gv) (nM : bm ≠ gv) (nR2 : R ≠ gr) (nM2 : bm ≠ gr) (nK : gk ≠ gv) (nC : gc ≠ gv) (nK2 : gk ≠ gr) (nC2 : gc ≠ gr) :
  Calls Tryz.prog 162 #[.pointer (some ⟨R,0,none⟩),.agg #[.int .i64 8,.int .i64 r',.int .i64 a,.int .i64 b',.int .i64 c],.int .i64 c] w fun e w'=>e=.returned (.bool true)∧∃ LK' rs',MQ w' B Hq vc vk (.slice (some ⟨gO,0,none⟩) d.mem.length cO) vt LC LK' (S.set c rs') { putK d who ⟨k.pc,k.regs.set r' (ldX d.mem k.vw c 0).v,(ldW d.mem k.vw c 0 true).set c (lr.length:Int),k.st⟩ with mem:=d.mem.set c (lr++[⟨vb,toldL (ldW d.mem k.vw c 0 true) c lr.length true⟩]) }∧LK'[who]? =some ⟨⟨k.pc,k.regs.set r' (ldX d.mem k.vw c 0).v,(ldW d.mem k.vw c 0 true).set c (lr.length:Int),k.st⟩,.slice (some ⟨gr,0,none⟩) 8 cr,.slice (some ⟨gv,0,none⟩) 24 cv⟩∧LK'.length=LK.length∧Below B w w'∧∀ b',b' < w.heap.size→b'≠gv→b'≠gr→b'≠gO→r.val.ownBlock≠some b'→w'.heap[b']? =w.heap[b']? :=by
 obtain ⟨V,hV⟩:∃ V,w.alloc (.cells #[.int .i64 8,.int .i64 r',.int .i64 a,.int .i64 b',.int .i64 c] 141)=V:=⟨_,rfl⟩
 have kv:Below w.heap.size w V:=by subst hV;exact (Below.refl _ _).alloc (Nat.le_refl _) _
 have KV:=hidM1 kv
 have zV:=kv.size
 have QV:=hq.keep (w':=V) (fun b _ h1=>kv.block b h1) zV
 have SW:=hidM1 (swapY c r' b' 8 a vb lr r (h.below kv) QV hx h8 hvw hmem hc hr' hb' ((kv.cell (p:=⟨gr,b',none⟩) h.zr).trans lb) hlr hr hroom (by omega) nR nM nR2 nM2 nK nC nK2 nC2)
 obtain ⟨r0,r1,r2,r3,r4,m0,m1,m2,m3,fm,ec,c0,k0,k1,k3,fk,wc,zR,zm,zk,zc,zr⟩:=h
 have HV:=hidM1 hV
 clear hq hx h8 hvw hmem hlr hr QV kv hV
 go_enter Tryz.func162,Tryz.ntmps162
 go_wp2_with fail
 rw [HV.out]
 refine Calls.mono SW.out ?_
 rintro e w7 ⟨rfl,LK7,r7,q7,x7,n7,b7,f7⟩
 have Q7:=hidM1 q7
 have X7:=hidM1 x7
 have N7:=hidM1 n7
 have B7:=hidM1 b7
 have F7:=hidM1 f7
 clear q7 b7 f7 x7 n7
 go_wp2
 go_ret
 exact ⟨rfl,LK7,r7,Q7.out,X7.out,N7.out,(KV.out.mono hB).trans B7.out,fun b' h1 h2 h3 h4 h5=>(F7.out b' (by omega) h2 h3 h4 h5).trans (KV.out.block b' h1)⟩
set_option maxHeartbeats 2000000 in
theorem touch8n {Hq : Nat → Prop} {w : World} {B R bm gk gc gs gr gv who nn cv cr cs gO cO : Nat} {late : Int} {vc vk vt : Value} {nc cc : Nat} {pc st : Int} {LC : List CV} {LK : List KV} {S : List RS} {d : MD} {k : KD} (c r' b' : Nat) (a vb : Int) (lr : List WD) (r : RS) (h : Rn w R bm gk gc gs gr gv who nn cv cr cs late vc vk (.slice (some ⟨gO, 0, none⟩) d.mem.length cO) vt nc cc pc st) (hq : MQ w B Hq vc vk (.slice (some ⟨gO, 0, none⟩) d.mem.length cO) vt LC LK S d) (hx : LK[who]? = some ⟨k, .slice (some ⟨gr, 0, none⟩) 8 cr, .slice (some ⟨gv, 0, none⟩) 24 cv⟩) (h8 : k.regs.length = 8) (hvw : viewB d.mem k.vw = true) (hmem : memB d.mem = true) (hc : c < 24) (hr' : r' < 8) (hb' : b' < 8) (lb : w.cell? ⟨gr, b', none⟩ = some (.int .i64 vb)) (hlr : d.mem[c]? = some lr) (hr : S[c]? = some r) (hroom : ¬ lr.length < 4000) (hB : B ≤ w.heap.size) (nR : R ≠ gv) (nM : bm ≠ gv) (nR2 : R ≠ gr) (nM2 : bm ≠ gr) (nK : gk ≠ gv) (nC : gc ≠ gv) (nK2 : gk ≠ gr) (nC2 : gc ≠ gr) :
  Calls Tryz.prog 162 #[.pointer (some ⟨R,0,none⟩),.agg #[.int .i64 8,.int .i64 r',.int .i64 a,.int .i64 b',.int .i64 c],.int .i64 c] w fun e w'=>e=.returned (.bool false)∧∃ LK',MQ w' B Hq vc vk (.slice (some ⟨gO,0,none⟩) d.mem.length cO) vt LC LK' S (putK d who ⟨k.pc,k.regs.set r' (ldX d.mem k.vw c 0).v,ldW d.mem k.vw c 0 true,k.st⟩)∧LK'[who]? =some ⟨⟨k.pc,k.regs.set r' (ldX d.mem k.vw c 0).v,ldW d.mem k.vw c 0 true,k.st⟩,.slice (some ⟨gr,0,none⟩) 8 cr,.slice (some ⟨gv,0,none⟩) 24 cv⟩∧(LK'.length=LK.length∧∀ j,j≠who→LK'[j]? =LK[j]?)∧Below B w w'∧∀ b',b' < w.heap.size→b'≠gv→b'≠gr→w'.heap[b']? =w.heap[b']? :=by
 obtain ⟨V,hV⟩:∃ V,w.alloc (.cells #[.int .i64 8,.int .i64 r',.int .i64 a,.int .i64 b',.int .i64 c] 141)=V:=⟨_,rfl⟩
 have kv:Below w.heap.size w V:=by subst hV;exact (Below.refl _ _).alloc (Nat.le_refl _) _
 have KV:=hidM1 kv
 have zV:=kv.size
 have QV:=hq.keep (w':=V) (fun b _ h1=>kv.block b h1) zV
 have SW:=hidM1 (swapN c r' b' 8 a vb lr r (h.below kv) QV hx h8 hvw hmem hc hr' hb' ((kv.cell (p:=⟨gr,b',none⟩) h.zr).trans lb) hlr hr hroom (by omega) nR nM nR2 nM2 nK nC nK2 nC2)
 obtain ⟨r0,r1,r2,r3,r4,m0,m1,m2,m3,fm,ec,c0,k0,k1,k3,fk,wc,zR,zm,zk,zc,zr⟩:=h
 have HV:=hidM1 hV
 clear hq hx h8 hvw hmem hlr hr QV kv hV
 go_enter Tryz.func162,Tryz.ntmps162
 go_wp2_with fail
 rw [HV.out]
 refine Calls.mono SW.out ?_
 rintro e w7 ⟨rfl,LK7,q7,x7,n7,b7,f7⟩
 have Q7:=hidM1 q7
 have X7:=hidM1 x7
 have N7:=hidM1 n7
 have B7:=hidM1 b7
 have F7:=hidM1 f7
 clear q7 b7 f7 x7 n7
 go_wp2
 go_ret
 exact ⟨rfl,LK7,Q7.out,X7.out,N7.out,(KV.out.mono hB).trans B7.out,fun b' h1 h2 h3=>(F7.out b' (by omega) h2 h3).trans (KV.out.block b' h1)⟩
end
section
set_option linter.unusedSimpArgs false
set_option linter.unusedVariables false
set_option maxRecDepth 100000
open Go.RowKit
theorem Rn.off {w:World} {R bm gk gc gs gr gv who n cv cr cs g j:Nat} {late:Int} {vc vk vm vt v:Value} {nc cc:Nat} {pc st:Int} (h:Rn w R bm gk gc gs gr gv who n cv cr cs late vc vk vm vt nc cc pc st) (h1:R≠g) (h2:bm≠g) (h3:gk≠g) (h4:gc≠g):Rn (w.setCell ⟨g,j,none⟩ v) R bm gk gc gs gr gv who n cv cr cs late vc vk vm vt nc cc pc st:=by
 obtain ⟨r0,r1,r2,r3,r4,m0,m1,m2,m3,fm,ec,c0,k0,k1,k3,fk,wc,zR,zm,zk,zc,zr⟩:=h
 have kb:∀ b,b≠g→(w.setCell ⟨g,j,none⟩ v).heap[b]? =w.heap[b]? :=fun b hb=>Below.heap_setCell _ _ _ b hb
 have cR:∀ i,(w.setCell ⟨g,j,none⟩ v).cell? ⟨R,i,none⟩=w.cell? ⟨R,i,none⟩:=fun i=>World.cell?_of_block (kb R h1)
 have cM:∀ i,(w.setCell ⟨g,j,none⟩ v).cell? ⟨bm,i,none⟩=w.cell? ⟨bm,i,none⟩:=fun i=>World.cell?_of_block (kb bm h2)
 have cK:∀ i,(w.setCell ⟨g,j,none⟩ v).cell? ⟨gk,i,none⟩=w.cell? ⟨gk,i,none⟩:=fun i=>World.cell?_of_block (kb gk h3)
 exact ⟨(cR _).trans r0,(cR _).trans r1,(cR _).trans r2,(cR _).trans r3,(cR _).trans r4,(cM _).trans m0,(cM _).trans m1,(cM _).trans m2,(cM _).trans m3,fun i=>(World.frozen?_of_block (kb bm h2)).trans (fm i),ec,(World.cell?_of_block (kb gc h4)).trans c0,(cK _).trans k0,(cK _).trans k1,(cK _).trans k3,fun i=>(World.frozen?_of_block (kb gk h3)).trans (fk i),wc,by simpa using zR,by simpa using zm,by simpa using zk,by simpa using zc,by simpa using zr⟩
theorem stepAt_reck (d:MD) (who:Nat) (late:Int) (k:KD) (n:Nat) (op:Int) (r' a' b':Nat) (nn:Int) (hop:op=1∨op=2∨op=3∨op=4):stepAt d who late k n ⟨op,r',a',b',nn⟩=(goM d who { k with regs:=k.regs.set r' (reckV op nn (k.regs.getD a' 0) (k.regs.getD b' 0)) } n (k.pc+1),0):=by
 rcases hop with rfl | rfl | rfl | rfl
 ·rw [stepAt1 _ _ _ _ _ _ rfl];rfl
 ·rw [stepAt2 _ _ _ _ _ _ rfl];rfl
 ·rw [stepAt3 _ _ _ _ _ _ rfl];rfl
 ·rw [stepAt4 _ _ _ _ _ _ rfl]
  unfold setR regA
  simp [reckV,bitN]
theorem reckon_any {w : World} {R bm gk gc gs gr gv who n cv cr cs : Nat} {late : Int} {vc vk vm vt : Value} {nc cc : Nat} {pc st : Int} (op : Int) (hop : op = 1 ∨ op = 2 ∨ op = 3 ∨ op = 4) (r' a' b' : Nat) (nn va vb v0 : Int) (h : Rn w R bm gk gc gs gr gv who n cv cr cs late vc vk vm vt nc cc pc st) (hr : r' < 8) (ha : a' < 8) (hb : b' < 8) (lr : w.cell? ⟨gr, r', none⟩ = some (.int .i64 v0)) (la : w.cell? ⟨gr, a', none⟩ = some (.int .i64 va)) (lb : w.cell? ⟨gr, b', none⟩ = some (.int .i64 vb)) (fr : ∀ j, w.frozen? ⟨gr, j, none⟩ = false) :
  Calls Tryz.prog 159 #[.pointer (some ⟨R,0,none⟩),.agg #[.int .i64 op,.int .i64 r',.int .i64 a',.int .i64 b',.int .i64 nn]] w fun e w'=>e=.returned (.tuple #[])∧Below w.heap.size (w.setCell ⟨gr,r',none⟩ (.int .i64 (reckV op nn va vb))) w':=by
 rcases hop with rfl | rfl | rfl | rfl
 ·exact reckon1 r' a' b' nn va vb v0 h hr ha hb lr la lb fr
 ·exact reckon2 r' a' b' nn va vb v0 h hr ha hb lr la lb fr
 ·exact reckon3 r' a' b' nn va vb v0 h hr ha hb lr la lb fr
 ·exact reckon4 r' a' b' nn va vb v0 h hr ha hb lr la lb fr
set_option maxHeartbeats 8000000 in
theorem do14 {Hq : Nat → Prop} {w : World} {B R bm gk gc gs gr gv who n cv cr cs ck N p : Nat} {late : Int} {vc vm vt : Value} {nc cc : Nat} {st : Int} {LC : List CV} {LK : List KV} {S : List RS} {d : MD} {k : KD} (op : Int) (hop : op = 1 ∨ op = 2 ∨ op = 3 ∨ op = 4) (r' a' b' : Nat) (nn : Int) (h : Rn w R bm gk gc gs gr gv who n cv cr cs late vc (.slice (some ⟨gk, 0, none⟩) N ck) vm vt nc cc p st) (hq : MQ w B Hq vc (.slice (some ⟨gk, 0, none⟩) N ck) vm vt LC LK S d) (hN : LK.length = N) (hx : LK[who]? = some ⟨k, .slice (some ⟨gr, 0, none⟩) 8 cr, .slice (some ⟨gv, 0, none⟩) 24 cv⟩) (hp : k.pc = p) (h8 : k.regs.length = 8) (hr : r' < 8) (ha : a' < 8) (hb : b' < 8) (hn8 : n ≤ 800) (hpn : p < n) (hB : B ≤ w.heap.size) (nR2 : R ≠ gr) (nM2 : bm ≠ gr) (nK2 : gk ≠ gr) (nC2 : gc ≠ gr) :
  Calls Tryz.prog 158 #[.pointer (some ⟨R,0,none⟩),.agg #[.int .i64 op,.int .i64 r',.int .i64 a',.int .i64 b',.int .i64 nn]] w fun e w'=>e=.returned (.int .i64 0)∧∃ LK',MQ w' B Hq vc (.slice (some ⟨gk,0,none⟩) N ck) vm vt LC LK' S (stepAt d who late k n ⟨op,r',a',b',nn⟩).1∧Below B w w'∧∀ b',b' < w.heap.size→b'≠gr→b'≠gk→w'.heap[b']? =w.heap[b']? :=by
 obtain ⟨V,hV⟩:∃ V,w.alloc (.cells #[.int .i64 op,.int .i64 r',.int .i64 a',.int .i64 b',.int .i64 nn] 141)=V:=⟨_,rfl⟩
 have kv:Below w.heap.size w V:=by subst hV;exact (Below.refl _ _).alloc (Nat.le_refl _) _
 have zV:w.heap.size < V.heap.size:=by subst hV;simp
 have QV:=hq.keep (w':=V) (fun b _ h1=>kv.block b h1) kv.size
 have hrn:=(QV.k.inn who _ hx).1
 have hrn':OwnN V B (.slice (some ⟨gr,0,none⟩) k.regs.length cr) k.regs:=by rw [h8];exact hrn
 have RV:=h.below kv
 have bgr:B≤gr:=(World.ownsRow.lt hrn gr rfl).1
 have bgk:B≤gk:=(World.ownsRow.lt hq.k.row gk rfl).1
 obtain ⟨z,hz⟩:∃ z,reckV op nn (k.regs.getD a' 0) (k.regs.getD b' 0)=z:=⟨_,rfl⟩
 have RK:=reckon_any op hop r' a' b' nn _ _ _ RV hr ha hb (hrn'.cell (by omega)) (hrn'.cell (by omega)) (hrn'.cell (by omega)) (fun j=>World.ownsRow.frozenAt hrn' j)
 rw [hz] at RK
 have HRK:=hidM1 RK
 have Q1:=QV.reg hx h8 r' z
 have R1:=RV.off (g:=gr) (j:=r') (v:=.int .i64 z) nR2 nM2 nK2 nC2
 have HQ1:=hidM1 Q1
 have HR1:=hidM1 R1
 have HX:=hidM1 hx
 have KV:=hidM1 kv
 have EQ:Hid (stepAt d who late k n ⟨op,r',a',b',nn⟩=(goM d who { k with regs:=k.regs.set r' z } n (p+1),0)):=by
  show _=_
  rw [stepAt_reck d who late k n op r' a' b' nn hop,hz,hp]
 have HV:=hidM1 hV
 obtain ⟨r0,r1,r2,r3,r4,m0,m1,m2,m3,fm,ec,c0,k0,k1,k3,fk,wc,zR,zm,zk,zc,zr⟩:=h
 have w1:IntKind.i64.wrap ((p:Int)+1)=(p:Int)+1:=Go.IntWalk.i64_in _ (by omega)
 clear hq hx QV hrn hrn' RV RK Q1 R1 kv hV hz r0 r1 r2 r3 r4 m0 m1 m2 m3 fm c0 k0 k1 k3 fk
 rcases hop with rfl | rfl | rfl | rfl
 all_goals
  go_enter Tryz.func158,Tryz.ntmps158
  go_wp2_with fail
  rw [HV.out]
  refine Calls.mono HRK.out ?_
  rintro e w5 ⟨rfl,hb5⟩
  have sz:(V.setCell ⟨gr,r',none⟩ (.int .i64 z)).heap.size=V.heap.size:=by simp
  have hb5':Below (V.setCell ⟨gr,r',none⟩ (.int .i64 z)).heap.size (V.setCell ⟨gr,r',none⟩ (.int .i64 z)) w5:=by rw [sz];exact hb5
  have R5:=HR1.out.below hb5'
  have Q5:=hidM1 (HQ1.out.keep (w':=w5) (fun b _ h1=>hb5'.block b h1) hb5'.size)
  have HB5:=hidM1 hb5
  have HR5:=hidM1 R5
  obtain ⟨r0,r1,r2,r3,r4,m0,m1,m2,m3,fm,ec',c0,k0,k1,k3,fk,wc',zR',zm',zk',zc',zr'⟩:=R5
  clear hb5 hb5' sz ec'
  by_cases hin:(p:Int)+1 < (n:Int)
  ·have GT:=hidM1 (goTo_yes ((p:Int)+1) HR5.out (by omega) hin)
   go_wp2_with fail
   refine Calls.mono GT.out ?_
   rintro e w6 ⟨rfl,hb6⟩
   have HB6:=hidM1 hb6
   clear hb6
   go_wp2
   go_ret
   obtain ⟨LK2,q2⟩:=MQ.go (n:=n) Q5.out (by rw [List.length_set];exact hN) (set_at HX.out) (p+1) hin (F:=w6) (fun b hb=>HB6.out.block b hb) (by simpa using HB6.out.size)
   rw [goM_put] at q2
   refine ⟨rfl,LK2,by rw [EQ.out];exact q2,?_,fun b' h1 h2 h3=>?_⟩
   ·have s5:=HB5.out.size
    simp at s5
    exact ((((KV.out.mono hB).setCell (p:=⟨gr,r',none⟩) bgr _).trans (HB5.out.mono (by omega))).setCell (p:=⟨gk,who * 4,none⟩) bgk _).trans (HB6.out.mono (by omega))
   ·have s5:=HB5.out.size
    simp at s5
    exact (HB6.out.block b' (by omega)).trans ((Below.heap_setCell _ ⟨gk,_,none⟩ _ b' h3).trans ((HB5.out.block b' (by omega)).trans ((Below.heap_setCell _ ⟨gr,_,none⟩ _ b' h2).trans (KV.out.block b' h1))))
  ·have GT:=hidM1 (goTo_no ((p:Int)+1) HR5.out (by omega))
   go_wp2_with fail
   refine Calls.mono GT.out ?_
   rintro e w6 ⟨rfl,hb6⟩
   have HB6:=hidM1 hb6
   clear hb6
   go_wp2
   go_ret
   obtain ⟨LK2,q2⟩:=MQ.no (n:=n) Q5.out (by rw [List.length_set];exact hN) (set_at HX.out) (p+1) (by omega) (F:=w6) (fun b hb=>HB6.out.block b hb) (by simpa using HB6.out.size)
   rw [goM_put] at q2
   refine ⟨rfl,LK2,by rw [EQ.out];exact q2,?_,fun b' h1 h2 h3=>?_⟩
   ·have s5:=HB5.out.size
    simp at s5
    exact ((((KV.out.mono hB).setCell (p:=⟨gr,r',none⟩) bgr _).trans (HB5.out.mono (by omega))).setCell (p:=⟨gk,who * 4+3,none⟩) bgk _).trans (HB6.out.mono (by omega))
   ·have s5:=HB5.out.size
    simp at s5
    exact (HB6.out.block b' (by omega)).trans ((Below.heap_setCell _ ⟨gk,_,none⟩ _ b' h3).trans ((HB5.out.block b' (by omega)).trans ((Below.heap_setCell _ ⟨gr,_,none⟩ _ b' h2).trans (KV.out.block b' h1))))
end
section
set_option linter.unusedSimpArgs false
set_option linter.unusedVariables false
set_option maxRecDepth 100000
open Go.RowKit
set_option maxHeartbeats 1000000 in
theorem do10 {Hq : Nat → Prop} {w : World} {B R bm gk gc gs gr gv who n cv cr cs ck N p : Nat} {late : Int} {vc vm vt : Value} {nc cc : Nat} {st : Int} {LC : List CV} {LK : List KV} {S : List RS} {d : MD} {k : KD} (r a b nn : Int) (h : Rn w R bm gk gc gs gr gv who n cv cr cs late vc (.slice (some ⟨gk, 0, none⟩) N ck) vm vt nc cc p st) (hq : MQ w B Hq vc (.slice (some ⟨gk, 0, none⟩) N ck) vm vt LC LK S d) (hN : LK.length = N) (hx : LK[who]? = some ⟨k, .slice (some ⟨gr, 0, none⟩) 8 cr, .slice (some ⟨gv, 0, none⟩) 24 cv⟩) (hp : k.pc = p) (hn8 : n ≤ 800) (hpn : p < n) (hB : B ≤ w.heap.size) (h0 : 0 ≤ nn) (h1 : nn < (n : Int)) :
  Calls Tryz.prog 158 #[.pointer (some ⟨R,0,none⟩),.agg #[.int .i64 10,.int .i64 r,.int .i64 a,.int .i64 b,.int .i64 nn]] w fun e w'=>e=.returned (.int .i64 0)∧∃ LK',MQ w' B Hq vc (.slice (some ⟨gk,0,none⟩) N ck) vm vt LC LK' S (stepAt d who late k n ⟨10,r,a,b,nn⟩).1∧Below B w w'∧∀ b',b' < w.heap.size→b'≠gk→w'.heap[b']? =w.heap[b']? :=by
 obtain ⟨V,hV⟩:∃ V,w.alloc (.cells #[.int .i64 10,.int .i64 r,.int .i64 a,.int .i64 b,.int .i64 nn] 141)=V:=⟨_,rfl⟩
 have kv:Below w.heap.size w V:=by subst hV;exact (Below.refl _ _).alloc (Nat.le_refl _) _
 have zV:w.heap.size < V.heap.size:=by subst hV;simp
 have QV:=hidM1 (hq.keep (w':=V) (fun b _ h1=>kv.block b h1) kv.size)
 have RV:=hidM1 (h.below kv)
 have bgk:B≤gk:=(World.ownsRow.lt hq.k.row gk rfl).1
 have HX:=hidM1 hx
 have KV:=hidM1 kv
 have HV:=hidM1 hV
 have EQ:Hid (stepAt d who late k n ⟨10,r,a,b,nn⟩=(goM d who k n nn,0)):=stepAt10 _ _ _ _ _ _ rfl
 have GT:=hidM1 (goTo_yes nn RV.out h0 h1)
 clear hq hx kv hV h
 go_enter Tryz.func158,Tryz.ntmps158
 go_wp2_with fail
 rw [HV.out]
 refine Calls.mono GT.out ?_
 rintro e w6 ⟨rfl,hb6⟩
 have HB6:=hidM1 hb6
 clear hb6
 go_wp2
 go_ret
 obtain ⟨LK2,q2⟩:=MQ.go (n:=n) QV.out hN HX.out nn h1 (F:=w6) (fun b hb=>HB6.out.block b hb) (by simpa using HB6.out.size)
 refine ⟨rfl,LK2,by rw [EQ.out];exact q2,((KV.out.mono hB).setCell (p:=⟨gk,who * 4,none⟩) bgk _).trans (HB6.out.mono (by omega)),fun b' h1 h3=>(HB6.out.block b' (by omega)).trans ((Below.heap_setCell _ ⟨gk,_,none⟩ _ b' h3).trans (KV.out.block b' h1))⟩
set_option maxHeartbeats 1000000 in
theorem do12 {Hq : Nat → Prop} {w : World} {B R bm gk gc gs gr gv who n cv cr cs ck N p : Nat} {late : Int} {vc vm vt : Value} {nc cc : Nat} {st : Int} {LC : List CV} {LK : List KV} {S : List RS} {d : MD} {k : KD} (r a b nn : Int) (h : Rn w R bm gk gc gs gr gv who n cv cr cs late vc (.slice (some ⟨gk, 0, none⟩) N ck) vm vt nc cc p st) (hq : MQ w B Hq vc (.slice (some ⟨gk, 0, none⟩) N ck) vm vt LC LK S d) (hN : LK.length = N) (hx : LK[who]? = some ⟨k, .slice (some ⟨gr, 0, none⟩) 8 cr, .slice (some ⟨gv, 0, none⟩) 24 cv⟩) (hp : k.pc = p) (hn8 : n ≤ 800) (hpn : p < n) (hB : B ≤ w.heap.size) :
  Calls Tryz.prog 158 #[.pointer (some ⟨R,0,none⟩),.agg #[.int .i64 12,.int .i64 r,.int .i64 a,.int .i64 b,.int .i64 nn]] w fun e w'=>e=.returned (.int .i64 0)∧∃ LK',MQ w' B Hq vc (.slice (some ⟨gk,0,none⟩) N ck) vm vt LC LK' S (stepAt d who late k n ⟨12,r,a,b,nn⟩).1∧Below B w w'∧∀ b',b' < w.heap.size→b'≠gk→w'.heap[b']? =w.heap[b']? :=by
 obtain ⟨V,hV⟩:∃ V,w.alloc (.cells #[.int .i64 12,.int .i64 r,.int .i64 a,.int .i64 b,.int .i64 nn] 141)=V:=⟨_,rfl⟩
 have kv:Below w.heap.size w V:=by subst hV;exact (Below.refl _ _).alloc (Nat.le_refl _) _
 have zV:w.heap.size < V.heap.size:=by subst hV;simp
 have QV:=hidM1 (hq.keep (w':=V) (fun b _ h1=>kv.block b h1) kv.size)
 have RV:=hidM1 (h.below kv)
 have bgk:B≤gk:=(World.ownsRow.lt hq.k.row gk rfl).1
 have HX:=hidM1 hx
 have KV:=hidM1 kv
 have HV:=hidM1 hV
 have EQ:Hid (stepAt d who late k n ⟨12,r,a,b,nn⟩=(putK d who { k with st:=1 },0)):=stepAt12 _ _ _ _ _ _ rfl
 have GT:=hidM1 (stop_any 1 RV.out)
 clear hq hx kv hV h
 go_enter Tryz.func158,Tryz.ntmps158
 go_wp2_with fail
 rw [HV.out]
 refine Calls.mono GT.out ?_
 rintro e w6 ⟨rfl,hb6⟩
 have HB6:=hidM1 hb6
 clear hb6
 go_wp2
 go_ret
 obtain ⟨LK2,q2⟩:=MQ.st QV.out hN HX.out 1 (F:=w6) (fun b hb=>HB6.out.block b hb) (by simpa using HB6.out.size)
 refine ⟨rfl,LK2,by rw [EQ.out];exact q2,((KV.out.mono hB).setCell (p:=⟨gk,who * 4+3,none⟩) bgk _).trans (HB6.out.mono (by omega)),fun b' h1 h3=>(HB6.out.block b' (by omega)).trans ((Below.heap_setCell _ ⟨gk,_,none⟩ _ b' h3).trans (KV.out.block b' h1))⟩
set_option maxHeartbeats 1000000 in
theorem do13 {Hq : Nat → Prop} {w : World} {B R bm gk gc gs gr gv who n cv cr cs ck N p : Nat} {late : Int} {vc vm vt : Value} {nc cc : Nat} {st : Int} {LC : List CV} {LK : List KV} {S : List RS} {d : MD} {k : KD} (r a b nn : Int) (h : Rn w R bm gk gc gs gr gv who n cv cr cs late vc (.slice (some ⟨gk, 0, none⟩) N ck) vm vt nc cc p st) (hq : MQ w B Hq vc (.slice (some ⟨gk, 0, none⟩) N ck) vm vt LC LK S d) (hN : LK.length = N) (hx : LK[who]? = some ⟨k, .slice (some ⟨gr, 0, none⟩) 8 cr, .slice (some ⟨gv, 0, none⟩) 24 cv⟩) (hp : k.pc = p) (hn8 : n ≤ 800) (hpn : p < n) (hB : B ≤ w.heap.size) :
  Calls Tryz.prog 158 #[.pointer (some ⟨R,0,none⟩),.agg #[.int .i64 13,.int .i64 r,.int .i64 a,.int .i64 b,.int .i64 nn]] w fun e w'=>e=.returned (.int .i64 0)∧∃ LK',MQ w' B Hq vc (.slice (some ⟨gk,0,none⟩) N ck) vm vt LC LK' S (stepAt d who late k n ⟨13,r,a,b,nn⟩).1∧Below B w w'∧∀ b',b' < w.heap.size→b'≠gk→w'.heap[b']? =w.heap[b']? :=by
 obtain ⟨V,hV⟩:∃ V,w.alloc (.cells #[.int .i64 13,.int .i64 r,.int .i64 a,.int .i64 b,.int .i64 nn] 141)=V:=⟨_,rfl⟩
 have kv:Below w.heap.size w V:=by subst hV;exact (Below.refl _ _).alloc (Nat.le_refl _) _
 have zV:w.heap.size < V.heap.size:=by subst hV;simp
 have QV:=hidM1 (hq.keep (w':=V) (fun b _ h1=>kv.block b h1) kv.size)
 have RV:=hidM1 (h.below kv)
 have bgk:B≤gk:=(World.ownsRow.lt hq.k.row gk rfl).1
 have HX:=hidM1 hx
 have KV:=hidM1 kv
 have HV:=hidM1 hV
 have EQ:Hid (stepAt d who late k n ⟨13,r,a,b,nn⟩=(putK d who { k with st:=2 },0)):=stepAt13 _ _ _ _ _ _ rfl
 have GT:=hidM1 (stop_any 2 RV.out)
 clear hq hx kv hV h
 go_enter Tryz.func158,Tryz.ntmps158
 go_wp2_with fail
 rw [HV.out]
 refine Calls.mono GT.out ?_
 rintro e w6 ⟨rfl,hb6⟩
 have HB6:=hidM1 hb6
 clear hb6
 go_wp2
 go_ret
 obtain ⟨LK2,q2⟩:=MQ.st QV.out hN HX.out 2 (F:=w6) (fun b hb=>HB6.out.block b hb) (by simpa using HB6.out.size)
 refine ⟨rfl,LK2,by rw [EQ.out];exact q2,((KV.out.mono hB).setCell (p:=⟨gk,who * 4+3,none⟩) bgk _).trans (HB6.out.mono (by omega)),fun b' h1 h3=>(HB6.out.block b' (by omega)).trans ((Below.heap_setCell _ ⟨gk,_,none⟩ _ b' h3).trans (KV.out.block b' h1))⟩
set_option maxHeartbeats 1000000 in
theorem do11 {Hq : Nat → Prop} {w : World} {B R bm gk gc gs gr gv who n cv cr cs ck N p : Nat} {late : Int} {vc vm vt : Value} {nc cc : Nat} {st : Int} {LC : List CV} {LK : List KV} {S : List RS} {d : MD} {k : KD} (a' : Nat) (r b nn va : Int) (h : Rn w R bm gk gc gs gr gv who n cv cr cs late vc (.slice (some ⟨gk, 0, none⟩) N ck) vm vt nc cc p st) (hq : MQ w B Hq vc (.slice (some ⟨gk, 0, none⟩) N ck) vm vt LC LK S d) (hN : LK.length = N) (hx : LK[who]? = some ⟨k, .slice (some ⟨gr, 0, none⟩) 8 cr, .slice (some ⟨gv, 0, none⟩) 24 cv⟩) (hp : k.pc = p) (hn8 : n ≤ 800) (hpn : p < n) (hB : B ≤ w.heap.size) (ha : a' < 8) (la : w.cell? ⟨gr, a', none⟩ = some (.int .i64 va)) (hva : k.regs.getD a' 0 = va) (h0 : 0 ≤ nn) (h1 : nn < (n : Int)) :
  Calls Tryz.prog 158 #[.pointer (some ⟨R,0,none⟩),.agg #[.int .i64 11,.int .i64 r,.int .i64 a',.int .i64 b,.int .i64 nn]] w fun e w'=>e=.returned (.int .i64 0)∧∃ LK',MQ w' B Hq vc (.slice (some ⟨gk,0,none⟩) N ck) vm vt LC LK' S (stepAt d who late k n ⟨11,r,a',b,nn⟩).1∧Below B w w'∧∀ b',b' < w.heap.size→b'≠gk→w'.heap[b']? =w.heap[b']? :=by
 obtain ⟨V,hV⟩:∃ V,w.alloc (.cells #[.int .i64 11,.int .i64 r,.int .i64 a',.int .i64 b,.int .i64 nn] 141)=V:=⟨_,rfl⟩
 have kv:Below w.heap.size w V:=by subst hV;exact (Below.refl _ _).alloc (Nat.le_refl _) _
 have zV:w.heap.size < V.heap.size:=by subst hV;simp
 have QV:=hidM1 (hq.keep (w':=V) (fun b _ h1=>kv.block b h1) kv.size)
 have RV:=hidM1 (h.below kv)
 have bgk:B≤gk:=(World.ownsRow.lt hq.k.row gk rfl).1
 have HX:=hidM1 hx
 have KV:=hidM1 kv
 have HV:=hidM1 hV
 have EQ0:=hidM1 (stepAt11 d who late k n ⟨11,r,a',b,nn⟩ rfl)
 obtain ⟨r0,r1,r2,r3,r4,m0,m1,m2,m3,fm,ec,c0,k0,k1,k3,fk,wc,zR,zm,zk,zc,zr⟩:=h
 have ba0:(0:Int)≤(a':Int):=by omega
 have ba1:(a':Int) < 8:=by omega
 have w1:IntKind.i64.wrap ((p:Int)+1)=(p:Int)+1:=Go.IntWalk.i64_in _ (by omega)
 have t2:V.cell? ⟨w.heap.size,2,none⟩=some (.int .i64 a'):=by subst hV;simp [go_sem]
 have t4:V.cell? ⟨w.heap.size,4,none⟩=some (.int .i64 nn):=by subst hV;simp [go_sem]
 have u2:=Ext.fit t2 zV
 have u0:=Ext.fit ((kv.cell (p:=⟨R,1,none⟩) zR).trans r1) (by omega)
 have u1:=Ext.fit ((kv.cell (p:=⟨gk,who * 4+1,none⟩) zk).trans k1) (by omega)
 have ua:=Ext.fit ((kv.cell (p:=⟨gr,a',none⟩) zr).trans la) (by omega)
 have hne:=ext_ne V
 clear hq hx kv hV
 go_enter Tryz.func158,Tryz.ntmps158
 go_wp2_with fail
 rw [HV.out]
 refine regionExt V (by kernel_rfl) (by kernel_rfl) ?_
 repeat (go_big_quiet_step (fail))
 refine wpQuiet_nil ?_
 rintro w3 ⟨X3,rfl⟩
 obtain ⟨U,hU⟩:∃ U,X3.w=U:=⟨_,rfl⟩
 have hb3:=X3.b
 rw [hU] at hb3 ⊢
 have KU:=hidM1 (KV.out.trans (hb3.mono (by omega)))
 have QU:=hidM1 (QV.out.keep (w':=U) (fun b _ h1=>hb3.block b h1) hb3.size)
 have RU:=RV.out.below hb3
 have HRU:=hidM1 RU
 have zU:w.heap.size < U.heap.size:=by have:=hb3.size;omega
 have t4u:=(hb3.cell (p:=⟨w.heap.size,4,none⟩) zV).trans t4
 clear hne u0 u1 u2 ua t2 t4 hU X3 r0 r1 r2 r3 r4 m0 m1 m2 m3 fm c0 k0 k1 k3 fk hb3 la
 obtain ⟨r0,r1,r2,r3,r4,m0,m1,m2,m3,fm,ec',c0,k0,k1,k3,fk,wc',zR',zm',zk',zc',zr'⟩:=RU
 clear ec'
 by_cases hz:va=0
 ·have EQ:Hid (stepAt d who late k n ⟨11,r,a',b,nn⟩=(goM d who k n nn,0)):=by
   show _=_
   rw [EQ0.out]
   unfold regA
   simp only [Int.toNat_natCast,hva,hz,if_true]
  subst hz
  have GT:=hidM1 (goTo_yes nn HRU.out h0 h1)
  go_wp2_with fail
  refine Calls.mono GT.out ?_
  rintro e w6 ⟨rfl,hb6⟩
  have HB6:=hidM1 hb6
  clear hb6
  go_wp2
  go_ret
  obtain ⟨LK2,q2⟩:=MQ.go (n:=n) QU.out hN HX.out nn h1 (F:=w6) (fun b hb=>HB6.out.block b hb) (by simpa using HB6.out.size)
  refine ⟨rfl,LK2,by rw [EQ.out];exact q2,((KU.out.mono hB).setCell (p:=⟨gk,who * 4,none⟩) bgk _).trans (HB6.out.mono (by omega)),fun b' h1 h3=>(HB6.out.block b' (by omega)).trans ((Below.heap_setCell _ ⟨gk,_,none⟩ _ b' h3).trans (KU.out.block b' h1))⟩
 ·have EQ:Hid (stepAt d who late k n ⟨11,r,a',b,nn⟩=(goM d who k n (p+1),0)):=by
   show _=_
   rw [EQ0.out]
   unfold regA
   simp only [Int.toNat_natCast,hva,hz,if_false,hp]
  by_cases hin:(p:Int)+1 < (n:Int)
  ·have GT:=hidM1 (goTo_yes ((p:Int)+1) HRU.out (by omega) hin)
   go_wp2_with fail
   refine Calls.mono GT.out ?_
   rintro e w6 ⟨rfl,hb6⟩
   have HB6:=hidM1 hb6
   clear hb6
   go_wp2
   go_ret
   obtain ⟨LK2,q2⟩:=MQ.go (n:=n) QU.out hN HX.out (p+1) hin (F:=w6) (fun b hb=>HB6.out.block b hb) (by simpa using HB6.out.size)
   refine ⟨rfl,LK2,by rw [EQ.out];exact q2,((KU.out.mono hB).setCell (p:=⟨gk,who * 4,none⟩) bgk _).trans (HB6.out.mono (by omega)),fun b' h1 h3=>(HB6.out.block b' (by omega)).trans ((Below.heap_setCell _ ⟨gk,_,none⟩ _ b' h3).trans (KU.out.block b' h1))⟩
  ·have GT:=hidM1 (goTo_no ((p:Int)+1) HRU.out (by omega))
   go_wp2_with fail
   refine Calls.mono GT.out ?_
   rintro e w6 ⟨rfl,hb6⟩
   have HB6:=hidM1 hb6
   clear hb6
   go_wp2
   go_ret
   obtain ⟨LK2,q2⟩:=MQ.no (n:=n) QU.out hN HX.out (p+1) (by omega) (F:=w6) (fun b hb=>HB6.out.block b hb) (by simpa using HB6.out.size)
   refine ⟨rfl,LK2,by rw [EQ.out];exact q2,((KU.out.mono hB).setCell (p:=⟨gk,who * 4+3,none⟩) bgk _).trans (HB6.out.mono (by omega)),fun b' h1 h3=>(HB6.out.block b' (by omega)).trans ((Below.heap_setCell _ ⟨gk,_,none⟩ _ b' h3).trans (KU.out.block b' h1))⟩
end
end Go.Proofs.YtlbeploopclegaaGreat
