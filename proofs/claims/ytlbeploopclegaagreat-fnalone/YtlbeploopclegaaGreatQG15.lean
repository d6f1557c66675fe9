/- A runner of the program swaps. No condition. A runner of the program goes for memory: a swap. No condition. A runner of the program does a step that turns registers. No condition. -/
import Derived.Test.YtlbeploopclegaaGreatQG00
import Derived.Test.YtlbeploopclegaaGreatQG01
import Derived.Test.YtlbeploopclegaaGreatQG12
import Derived.Test.YtlbeploopclegaaGreatQMemStore
import Derived.Test.YtlbeploopclegaaGreatQG06
import Derived.Test.YtlbeploopclegaaGreatQG10
import Derived.Test.YtlbeploopclegaaGreatQG14
import Derived.Test.YtlbeploopclegaaGreatQG13
import Derived.Test.YtlbeploopclegaaGreatQG02
namespace Go.Proofs.YtlbeploopclegaaGreat
section
set_option linter.unusedSimpArgs false
set_option linter.unusedVariables false
set_option maxRecDepth 100000
open Go.RowKit
set_option maxHeartbeats 2000000 in
theorem swapY {Hq : Nat → Prop} {w : World} {B R bm gk gc gs gr gv who nn cv cr cs gO cO : Nat} {late : Int} {vc vk vt : Value} {nc cc : Nat} {pc st : Int} {LC : List CV} {LK : List KV} {S : List RS} {d : MD} {k : KD} (c r' b' : Nat) (o a vb : Int) (lr : List WD) (r : RS) (h : Rn w R bm gk gc gs gr gv who nn cv cr cs late vc vk (.slice (some ⟨gO, 0, none⟩) d.mem.length cO) vt nc cc pc st) (hq : MQ w B Hq vc vk (.slice (some ⟨gO, 0, none⟩) d.mem.length cO) vt LC LK S d) (hx : LK[who]? = some ⟨k, .slice (some ⟨gr, 0, none⟩) 8 cr, .slice (some ⟨gv, 0, none⟩) 24 cv⟩) (h8 : k.regs.length = 8) (hvw : viewB d.mem k.vw = true) (hmem : memB d.mem = true) (hc : c < 24) (hr' : r' < 8) (hb' : b' < 8) (lb : w.cell? ⟨gr, b', none⟩ = some (.int .i64 vb)) (hlr : d.mem[c]? = some lr) (hr : S[c]? = some r) (hroom : lr.length < 4000) (hB : B ≤ w.heap.size) (nR : R ≠ gv) (nM : bm ≠ gv) (nR2 : R ≠ gr) (nM2 : bm ≠ gr) (nK : gk ≠ gv) (nC : gc ≠ gv) (nK2 : gk ≠ gr) (nC2 : gc ≠ gr) :
  Calls Tryz.prog 167 #[.pointer (some ⟨R,0,none⟩),.agg #[.int .i64 o,.int .i64 r',.int .i64 a,.int .i64 b',.int .i64 c]] w fun e w'=>e=.returned (.bool true)∧∃ LK' rs',MQ w' B Hq vc vk (.slice (some ⟨gO,0,none⟩) d.mem.length cO) vt LC LK' (S.set c rs') { putK d who ⟨k.pc,k.regs.set r' (ldX d.mem k.vw c 0).v,(ldW d.mem k.vw c 0 true).set c (lr.length:Int),k.st⟩ with mem:=d.mem.set c (lr++[⟨vb,toldL (ldW d.mem k.vw c 0 true) c lr.length true⟩]) }∧LK'[who]? =some ⟨⟨k.pc,k.regs.set r' (ldX d.mem k.vw c 0).v,(ldW d.mem k.vw c 0 true).set c (lr.length:Int),k.st⟩,.slice (some ⟨gr,0,none⟩) 8 cr,.slice (some ⟨gv,0,none⟩) 24 cv⟩∧LK'.length=LK.length∧Below B w w'∧∀ b',b' < w.heap.size→b'≠gv→b'≠gr→b'≠gO→r.val.ownBlock≠some b'→w'.heap[b']? =w.heap[b']? :=by
 have H:=hidM1 h
 have HQ:=hidM1 hq
 have HX:=hidM1 hx
 have H8:=hidM1 h8
 have HLR:=hidM1 hlr
 have HRR:=hidM1 hr
 have bgv:B≤gv:=(World.ownsRow.lt (hq.k.inn who _ hx).2 gv rfl).1
 have bgr:B≤gr:=(World.ownsRow.lt (hq.k.inn who _ hx).1 gr rfl).1
 have zgv:gv < w.heap.size:=(World.ownsRow.lt (hq.k.inn who _ hx).2 gv rfl).2
 have hgrv:gr≠gv:=fun e=>hq.k.two who _ gr hx rfl (by rw [e];rfl)
 obtain ⟨r0,r1,r2,r3,r4,m0,m1,m2,m3,fm,ec,c0,k0,k1,k3,fk,wc,zR,zm,zk,zc,zr⟩:=h
 have br0:(0:Int)≤(r':Int):=by omega
 have br1:(r':Int) < 8:=by omega
 have bb0:(0:Int)≤(b':Int):=by omega
 have bb1:(b':Int) < 8:=by omega
 have HW:=hidM1 hvw
 have HME:=hidM1 hmem
 clear hq hx h8 hvw hmem hlr hr
 go_enter Tryz.func167,Tryz.ntmps167
 go_wp2_with fail
 obtain ⟨V,hV⟩:∃ V,w.alloc (.cells #[.int .i64 o,.int .i64 r',.int .i64 a,.int .i64 b',.int .i64 c] 141)=V:=⟨_,rfl⟩
 have kv:Below w.heap.size w V:=by subst hV;exact (Below.refl _ _).alloc (Nat.le_refl _) _
 have zv:w.heap.size < V.heap.size:=by subst hV;simp
 have t1:V.cell? ⟨w.heap.size,1,none⟩=some (.int .i64 r'):=by subst hV;simp [go_sem]
 have t3:V.cell? ⟨w.heap.size,3,none⟩=some (.int .i64 b'):=by subst hV;simp [go_sem]
 have t4:V.cell? ⟨w.heap.size,4,none⟩=some (.int .i64 c):=by subst hV;simp [go_sem]
 rw [hV]
 clear hV
 have hne:=ext_ne V
 have u0:=Ext.fit ((kv.cell (p:=⟨R,1,none⟩) zR).trans r1) (by omega)
 have u1:=Ext.fit ((kv.cell (p:=⟨gk,who * 4+1,none⟩) zk).trans k1) (by omega)
 have u3:=Ext.fit t3 zv
 have ub:=Ext.fit ((kv.cell (p:=⟨gr,b',none⟩) zr).trans lb) (by omega)
 refine regionExt V (by kernel_rfl) (by kernel_rfl) ?_
 repeat (go_big_quiet_step (fail))
 refine wpQuiet_nil ?_
 rintro w3 ⟨X3,rfl⟩
 obtain ⟨U,hU⟩:∃ U,X3.w=U:=⟨_,rfl⟩
 have hb3:=X3.b
 rw [hU] at hb3 ⊢
 clear hU X3 hne u0 u1 u3 ub
 have ku:Below w.heap.size w U:=kv.trans (hb3.mono (by omega))
 have zu:w.heap.size < U.heap.size:=by have:=hb3.size;omega
 have t1u:=(hb3.cell (p:=⟨w.heap.size,1,none⟩) zv).trans t1
 have t4u:=(hb3.cell (p:=⟨w.heap.size,4,none⟩) zv).trans t4
 have KU:=hidM1 ku
 have QU:=hidM1 (HQ.out.keep (w':=U.drew) (fun b _ h1=>ku.block b h1) ku.size)
 have LD:=hidM1 (loadQ c 0 true QU.out HX.out HW.out HME.out hc (by omega))
 go_wp2_with fail
 have hne:=extP_ne U (fun b=>b=gv)
 have u1:=ExtP.fit (E:=fun b=>b=gv) t1u zu (by omega)
 have u4:=ExtP.fit (E:=fun b=>b=gv) t4u zu (by omega)
 have u2:=ExtP.fit (E:=fun b=>b=gv) ((ku.cell (p:=⟨R,0,none⟩) zR).trans r0) (by omega) nR
 have u3:=ExtP.fit (E:=fun b=>b=gv) ((ku.cell (p:=⟨R,2,none⟩) zR).trans r2) (by omega) nR
 have u6:=ExtP.fit (E:=fun b=>b=gv) ((ku.cell (p:=⟨R,1,none⟩) zR).trans r1) (by omega) nR
 have u5:=ExtP.fit (E:=fun b=>b=gv) ((ku.cell (p:=⟨bm,4,none⟩) zm).trans m2) (by omega) nM
 have u7:=ExtP.fit (E:=fun b=>b=gv) ((ku.cell (p:=⟨gk,who * 4+1,none⟩) zk).trans k1) (by omega) nK
 refine regionMix U (CP U (fun b=>b=gv)) 22 23 (by kernel_rfl) (by kernel_rfl) (fun _ _ d _ _ h=>by cases d<;>exact h) (CP.drew _ _) ?_
 unfold CP
 dsimp only [List.take,List.drop]
 repeat (go_big_quiet_step (fail))
 refine wpQuiet_nil ?_
 clear hne u1 u2 u3 u4 u5 u6 u7
 unfold wpListC
 go_wp2_with (go_at_call 168;refine Calls.mono LD.out ?_;rintro e w5 ⟨rfl,q5,x5⟩)
 refine And.intro (fun _ hc=>CP.on hc x5.os x5.tape x5.out x5.size (fun b h1 h2=>x5.blk b h1 (by omega))) ?_
 refine listC_late _ _ _ _ (by decide) ?_
 have hrn:=(q5.k.inn who _ (set_at HX.out)).1
 have hrn':OwnN w5 B (.slice (some ⟨gr,0,none⟩) k.regs.length cr) k.regs:=by rw [H8.out];exact hrn
 have lr':=hrn'.cell (i:=r') (by rw [H8.out];omega)
 have fr:∀ j,w5.frozen? ⟨gr,j,none⟩=false:=fun j=>World.ownsRow.frozenAt hrn' j
 have zr5:gr < w5.heap.size:=(World.ownsRow.lt hrn gr rfl).2
 have q6:=q5.reg (set_at HX.out) H8.out r' (ldX d.mem k.vw c 0).v
 rw [putK_putK] at q6
 obtain ⟨xv,hxv⟩:∃ xv,(ldX d.mem k.vw c 0).v=xv:=⟨_,rfl⟩
 rw [hxv] at q6
 obtain ⟨Y,hY⟩:∃ Y,w5.setCell ⟨gr,r',none⟩ (.int .i64 xv)=Y:=⟨_,rfl⟩
 have x5s:=x5.size
 have zdu:U.drew.heap.size=U.heap.size:=rfl
 have szY:Y.heap.size=w5.heap.size:=by rw [← hY];simp
 have yb:∀ b,b < w.heap.size→b≠gv→b≠gr→Y.heap[b]? =w.heap[b]? :=fun b h1 h2 h3=>by rw [← hY];exact (Below.heap_setCell _ ⟨gr,_,none⟩ _ b h3).trans ((x5.blk b (by omega) (by omega)).trans (ku.block b h1))
 have yB:Below B w Y:=by
  rw [← hY]
  have kd:Below B w w5:=⟨x5.os.trans ku.os,x5.tape.trans ku.tape,x5.out.trans ku.output,by omega,fun b hb=>(x5.blk b (by omega) (by omega)).trans (ku.block b (by omega))⟩
  exact kd.setCell (p:=⟨gr,r',none⟩) bgr _
 have RY:Rn Y R bm gk gc gs gr gv who nn cv cr cs late vc vk (.slice (some ⟨gO,0,none⟩) d.mem.length cO) vt nc cc pc st:=by
  have cR:∀ j,Y.cell? ⟨R,j,none⟩=w.cell? ⟨R,j,none⟩:=fun j=>World.cell?_of_block (yb R zR nR nR2)
  have cM:∀ j,Y.cell? ⟨bm,j,none⟩=w.cell? ⟨bm,j,none⟩:=fun j=>World.cell?_of_block (yb bm zm nM nM2)
  have cK:∀ j,Y.cell? ⟨gk,j,none⟩=w.cell? ⟨gk,j,none⟩:=fun j=>World.cell?_of_block (yb gk zk nK nK2)
  exact ⟨(cR _).trans r0,(cR _).trans r1,(cR _).trans r2,(cR _).trans r3,(cR _).trans r4,(cM _).trans m0,(cM _).trans m1,(cM _).trans m2,(cM _).trans m3,fun j=>(World.frozen?_of_block (yb bm zm nM nM2)).trans (fm j),ec,(World.cell?_of_block (yb gc zc nC nC2)).trans c0,(cK _).trans k0,(cK _).trans k1,(cK _).trans k3,fun j=>(World.frozen?_of_block (yb gk zk nK nK2)).trans (fk j),wc,by omega,by omega,by omega,by omega,by omega⟩
 have t4y:Y.cell? ⟨w.heap.size,4,none⟩=some (.int .i64 c):=by
  rw [← hY]
  exact (setC_blk (by omega)).trans ((World.cell?_of_block (w:=U) (x5.blk w.heap.size (by omega) (by omega))).trans t4u)
 have t4w:w5.cell? ⟨w.heap.size,4,none⟩=some (.int .i64 c):=(World.cell?_of_block (w:=U) (x5.blk w.heap.size (by omega) (by omega))).trans t4u
 have zw5:w.heap.size < w5.heap.size:=by omega
 rw [hxv]
 have zy:w.heap.size < Y.heap.size:=by omega
 have HY:=hidM1 hY
 rw [hY] at q6
 have hvlW:(ldW d.mem k.vw c 0 true).length=24:=by
  have q:=(viewB_iff.1 (ldW_ok 0 true HME.out HW.out hc)).1
  have:=(memB_at HME.out hc).1
  omega
 have WR:=hidM1 (write_yes (d:=putK d who ⟨k.pc,k.regs.set r' xv,ldW d.mem k.vw c 0 true,k.st⟩) c lr r vb true RY q6 (set_at (set_at HX.out)) hvlW HME.out hc HLR.out HRR.out hroom)
 have Q6:=hidM1 q6
 have YB:=hidM1 yb
 have YL:=hidM1 yB
 clear q5 q6 x5 hrn hrn' RY yb yB hY kv ku hb3 t1 t3 t4 t1u t4u r0 r1 r2 r3 r4 m0 m1 m2 m3 fm c0 k0 k1 k3 fk szY x5s zdu
 go_wp2_with fail
 rw [HY.out]
 refine Calls.mono WR.out ?_
 rintro e w7 ⟨rfl,r7,q7,b7,f7⟩
 have Q7:=hidM1 q7
 have B7:=hidM1 b7
 have F7:=hidM1 f7
 clear q7 b7 f7
 go_wp2
 go_ret
 subst hxv
 have q8:=Q7.out
 rw [putK_putK] at q8
 refine ⟨rfl,_,r7,q8,set_at (set_at (set_at HX.out)),?_,YL.out.trans B7.out,fun b' h1 h2 h3 h4 h5=>(F7.out b' (by omega) h2 h4 h5).trans (YB.out b' h1 h2 h3)⟩
 simp
set_option maxHeartbeats 2000000 in
theorem swapN {Hq : Nat → Prop} {w : World} {B R bm gk gc gs gr gv who nn cv cr cs gO cO : Nat} {late : Int} {vc vk vt : Value} {nc cc : Nat} {pc st : Int} {LC : List CV} {LK : List KV} {S : List RS} {d : MD} {k : KD} (c r' b' : Nat) (o a vb : Int) (lr : List WD) (r : RS) (h : Rn w R bm gk gc gs gr gv who nn cv cr cs late vc vk (.slice (some ⟨gO, 0, none⟩) d.mem.length cO) vt nc cc pc st) (hq : MQ w B Hq vc vk (.slice (some ⟨gO, 0, none⟩) d.mem.length cO) vt LC LK S d) (hx : LK[who]? = some ⟨k, .slice (some ⟨gr, 0, none⟩) 8 cr, .slice (some ⟨gv, 0, none⟩) 24 cv⟩) (h8 : k.regs.length = 8) (hvw : viewB d.mem k.vw = true) (hmem : memB d.mem = true) (hc : c < 24) (hr' : r' < 8) (hb' : b' < 8) (lb : w.cell? ⟨gr, b', none⟩ = some (.int .i64 vb)) (hlr : d.mem[c]? = some lr) (hr : S[c]? = some r) (hroom : ¬ lr.length < 4000) (hB : B ≤ w.heap.size) (nR : R ≠ gv) (nM : bm ≠ gv) (nR2 : R ≠ gr) (nM2 : bm ≠ gr) (nK : gk ≠ gv) (nC : gc ≠ gv) (nK2 : gk ≠ gr) (nC2 : gc ≠ gr) :
  Calls Tryz.prog 167 #[.pointer (some ⟨R,0,none⟩),.agg #[.int .i64 o,.int .i64 r',.int .i64 a,.int .i64 b',.int .i64 c]] w fun e w'=>e=.returned (.bool false)∧∃ LK',MQ w' B Hq vc vk (.slice (some ⟨gO,0,none⟩) d.mem.length cO) vt LC LK' S (putK d who ⟨k.pc,k.regs.set r' (ldX d.mem k.vw c 0).v,ldW d.mem k.vw c 0 true,k.st⟩)∧LK'[who]? =some ⟨⟨k.pc,k.regs.set r' (ldX d.mem k.vw c 0).v,ldW d.mem k.vw c 0 true,k.st⟩,.slice (some ⟨gr,0,none⟩) 8 cr,.slice (some ⟨gv,0,none⟩) 24 cv⟩∧(LK'.length=LK.length∧∀ j,j≠who→LK'[j]? =LK[j]?)∧Below B w w'∧∀ b',b' < w.heap.size→b'≠gv→b'≠gr→w'.heap[b']? =w.heap[b']? :=by
 have H:=hidM1 h
 have HQ:=hidM1 hq
 have HX:=hidM1 hx
 have H8:=hidM1 h8
 have HLR:=hidM1 hlr
 have HRR:=hidM1 hr
 have bgv:B≤gv:=(World.ownsRow.lt (hq.k.inn who _ hx).2 gv rfl).1
 have bgr:B≤gr:=(World.ownsRow.lt (hq.k.inn who _ hx).1 gr rfl).1
 have zgv:gv < w.heap.size:=(World.ownsRow.lt (hq.k.inn who _ hx).2 gv rfl).2
 have hgrv:gr≠gv:=fun e=>hq.k.two who _ gr hx rfl (by rw [e];rfl)
 obtain ⟨r0,r1,r2,r3,r4,m0,m1,m2,m3,fm,ec,c0,k0,k1,k3,fk,wc,zR,zm,zk,zc,zr⟩:=h
 have br0:(0:Int)≤(r':Int):=by omega
 have br1:(r':Int) < 8:=by omega
 have bb0:(0:Int)≤(b':Int):=by omega
 have bb1:(b':Int) < 8:=by omega
 have HW:=hidM1 hvw
 have HME:=hidM1 hmem
 clear hq hx h8 hvw hmem hlr hr
 go_enter Tryz.func167,Tryz.ntmps167
 go_wp2_with fail
 obtain ⟨V,hV⟩:∃ V,w.alloc (.cells #[.int .i64 o,.int .i64 r',.int .i64 a,.int .i64 b',.int .i64 c] 141)=V:=⟨_,rfl⟩
 have kv:Below w.heap.size w V:=by subst hV;exact (Below.refl _ _).alloc (Nat.le_refl _) _
 have zv:w.heap.size < V.heap.size:=by subst hV;simp
 have t1:V.cell? ⟨w.heap.size,1,none⟩=some (.int .i64 r'):=by subst hV;simp [go_sem]
 have t3:V.cell? ⟨w.heap.size,3,none⟩=some (.int .i64 b'):=by subst hV;simp [go_sem]
 have t4:V.cell? ⟨w.heap.size,4,none⟩=some (.int .i64 c):=by subst hV;simp [go_sem]
 rw [hV]
 clear hV
 have hne:=ext_ne V
 have u0:=Ext.fit ((kv.cell (p:=⟨R,1,none⟩) zR).trans r1) (by omega)
 have u1:=Ext.fit ((kv.cell (p:=⟨gk,who * 4+1,none⟩) zk).trans k1) (by omega)
 have u3:=Ext.fit t3 zv
 have ub:=Ext.fit ((kv.cell (p:=⟨gr,b',none⟩) zr).trans lb) (by omega)
 refine regionExt V (by kernel_rfl) (by kernel_rfl) ?_
 repeat (go_big_quiet_step (fail))
 refine wpQuiet_nil ?_
 rintro w3 ⟨X3,rfl⟩
 obtain ⟨U,hU⟩:∃ U,X3.w=U:=⟨_,rfl⟩
 have hb3:=X3.b
 rw [hU] at hb3 ⊢
 clear hU X3 hne u0 u1 u3 ub
 have ku:Below w.heap.size w U:=kv.trans (hb3.mono (by omega))
 have zu:w.heap.size < U.heap.size:=by have:=hb3.size;omega
 have t1u:=(hb3.cell (p:=⟨w.heap.size,1,none⟩) zv).trans t1
 have t4u:=(hb3.cell (p:=⟨w.heap.size,4,none⟩) zv).trans t4
 have KU:=hidM1 ku
 have QU:=hidM1 (HQ.out.keep (w':=U.drew) (fun b _ h1=>ku.block b h1) ku.size)
 have LD:=hidM1 (loadQ c 0 true QU.out HX.out HW.out HME.out hc (by omega))
 go_wp2_with fail
 have hne:=extP_ne U (fun b=>b=gv)
 have u1:=ExtP.fit (E:=fun b=>b=gv) t1u zu (by omega)
 have u4:=ExtP.fit (E:=fun b=>b=gv) t4u zu (by omega)
 have u2:=ExtP.fit (E:=fun b=>b=gv) ((ku.cell (p:=⟨R,0,none⟩) zR).trans r0) (by omega) nR
 have u3:=ExtP.fit (E:=fun b=>b=gv) ((ku.cell (p:=⟨R,2,none⟩) zR).trans r2) (by omega) nR
 have u6:=ExtP.fit (E:=fun b=>b=gv) ((ku.cell (p:=⟨R,1,none⟩) zR).trans r1) (by omega) nR
 have u5:=ExtP.fit (E:=fun b=>b=gv) ((ku.cell (p:=⟨bm,4,none⟩) zm).trans m2) (by omega) nM
 have u7:=ExtP.fit (E:=fun b=>b=gv) ((ku.cell (p:=⟨gk,who * 4+1,none⟩) zk).trans k1) (by omega) nK
 refine regionMix U (CP U (fun b=>b=gv)) 22 23 (by kernel_rfl) (by kernel_rfl) (fun _ _ d _ _ h=>by cases d<;>exact h) (CP.drew _ _) ?_
 unfold CP
 dsimp only [List.take,List.drop]
 repeat (go_big_quiet_step (fail))
 refine wpQuiet_nil ?_
 clear hne u1 u2 u3 u4 u5 u6 u7
 unfold wpListC
 go_wp2_with (go_at_call 168;refine Calls.mono LD.out ?_;rintro e w5 ⟨rfl,q5,x5⟩)
 refine And.intro (fun _ hc=>CP.on hc x5.os x5.tape x5.out x5.size (fun b h1 h2=>x5.blk b h1 (by omega))) ?_
 refine listC_late _ _ _ _ (by decide) ?_
 have hrn:=(q5.k.inn who _ (set_at HX.out)).1
 have hrn':OwnN w5 B (.slice (some ⟨gr,0,none⟩) k.regs.length cr) k.regs:=by rw [H8.out];exact hrn
 have lr':=hrn'.cell (i:=r') (by rw [H8.out];omega)
 have fr:∀ j,w5.frozen? ⟨gr,j,none⟩=false:=fun j=>World.ownsRow.frozenAt hrn' j
 have zr5:gr < w5.heap.size:=(World.ownsRow.lt hrn gr rfl).2
 have q6:=q5.reg (set_at HX.out) H8.out r' (ldX d.mem k.vw c 0).v
 rw [putK_putK] at q6
 obtain ⟨xv,hxv⟩:∃ xv,(ldX d.mem k.vw c 0).v=xv:=⟨_,rfl⟩
 rw [hxv] at q6
 obtain ⟨Y,hY⟩:∃ Y,w5.setCell ⟨gr,r',none⟩ (.int .i64 xv)=Y:=⟨_,rfl⟩
 have x5s:=x5.size
 have zdu:U.drew.heap.size=U.heap.size:=rfl
 have szY:Y.heap.size=w5.heap.size:=by rw [← hY];simp
 have yb:∀ b,b < w.heap.size→b≠gv→b≠gr→Y.heap[b]? =w.heap[b]? :=fun b h1 h2 h3=>by rw [← hY];exact (Below.heap_setCell _ ⟨gr,_,none⟩ _ b h3).trans ((x5.blk b (by omega) (by omega)).trans (ku.block b h1))
 have yB:Below B w Y:=by
  rw [← hY]
  have kd:Below B w w5:=⟨x5.os.trans ku.os,x5.tape.trans ku.tape,x5.out.trans ku.output,by omega,fun b hb=>(x5.blk b (by omega) (by omega)).trans (ku.block b (by omega))⟩
  exact kd.setCell (p:=⟨gr,r',none⟩) bgr _
 have RY:Rn Y R bm gk gc gs gr gv who nn cv cr cs late vc vk (.slice (some ⟨gO,0,none⟩) d.mem.length cO) vt nc cc pc st:=by
  have cR:∀ j,Y.cell? ⟨R,j,none⟩=w.cell? ⟨R,j,none⟩:=fun j=>World.cell?_of_block (yb R zR nR nR2)
  have cM:∀ j,Y.cell? ⟨bm,j,none⟩=w.cell? ⟨bm,j,none⟩:=fun j=>World.cell?_of_block (yb bm zm nM nM2)
  have cK:∀ j,Y.cell? ⟨gk,j,none⟩=w.cell? ⟨gk,j,none⟩:=fun j=>World.cell?_of_block (yb gk zk nK nK2)
  exact ⟨(cR _).trans r0,(cR _).trans r1,(cR _).trans r2,(cR _).trans r3,(cR _).trans r4,(cM _).trans m0,(cM _).trans m1,(cM _).trans m2,(cM _).trans m3,fun j=>(World.frozen?_of_block (yb bm zm nM nM2)).trans (fm j),ec,(World.cell?_of_block (yb gc zc nC nC2)).trans c0,(cK _).trans k0,(cK _).trans k1,(cK _).trans k3,fun j=>(World.frozen?_of_block (yb gk zk nK nK2)).trans (fk j),wc,by omega,by omega,by omega,by omega,by omega⟩
 have t4y:Y.cell? ⟨w.heap.size,4,none⟩=some (.int .i64 c):=by
  rw [← hY]
  exact (setC_blk (by omega)).trans ((World.cell?_of_block (w:=U) (x5.blk w.heap.size (by omega) (by omega))).trans t4u)
 have t4w:w5.cell? ⟨w.heap.size,4,none⟩=some (.int .i64 c):=(World.cell?_of_block (w:=U) (x5.blk w.heap.size (by omega) (by omega))).trans t4u
 have zw5:w.heap.size < w5.heap.size:=by omega
 rw [hxv]
 have zy:w.heap.size < Y.heap.size:=by omega
 have HY:=hidM1 hY
 rw [hY] at q6
 have hvlW:(ldW d.mem k.vw c 0 true).length=24:=by
  have q:=(viewB_iff.1 (ldW_ok 0 true HME.out HW.out hc)).1
  have:=(memB_at HME.out hc).1
  omega
 have h24:=(memB_at HME.out hc).1
 have WR:=hidM1 (write_no (c:=c) vb true RY (q6.m.cellc rfl HRR.out HLR.out) (World.ownsRow.lt q6.m.row gO rfl).2 (by omega) hroom)
 clear h24
 have Q6:=hidM1 q6
 have YB:=hidM1 yb
 have YL:=hidM1 yB
 clear q5 q6 x5 hrn hrn' RY yb yB hY kv ku hb3 t1 t3 t4 t1u t4u r0 r1 r2 r3 r4 m0 m1 m2 m3 fm c0 k0 k1 k3 fk szY x5s zdu
 go_wp2_with fail
 rw [HY.out]
 refine Calls.mono WR.out ?_
 rintro e w7 ⟨rfl,b7⟩
 have B7:=hidM1 b7
 clear b7
 go_wp2
 go_ret
 subst hxv
 have hBY:B≤gv:=bgv
 refine ⟨rfl,_,Q6.out.keep (fun b _ h1=>B7.out.block b h1) B7.out.size,set_at (set_at HX.out),?_,YL.out.trans (B7.out.mono (by omega)),fun b' h1 h2 h3=>(B7.out.block b' (by omega)).trans (YB.out b' h1 h2 h3)⟩
 exact ⟨by simp,fun j hj=>by rw [List.getElem?_set_ne (Ne.symm hj),List.getElem?_set_ne (Ne.symm hj)]⟩
end
section
set_option linter.unusedSimpArgs false
set_option linter.unusedVariables false
set_option maxRecDepth 100000
open Go.RowKit
set_option maxHeartbeats 2000000 in
theorem touch8y {Hq : Nat → Prop} {w : World} {B R bm gk gc gs gr gv who nn cv cr cs gO cO : Nat} {late : Int} {vc vk vt : Value} {nc cc : Nat} {pc st : Int} {LC : List CV} {LK : List KV} {S : List RS} {d : MD} {k : KD} (c r' b' : Nat) (a vb : Int) (lr : List WD) (r : RS) (h : Rn w R bm gk gc gs gr gv who nn cv cr cs late vc vk (.slice (some ⟨gO, 0, none⟩) d.mem.length cO) vt nc cc pc st) (hq : MQ w B Hq vc vk (.slice (some ⟨gO, 0, none⟩) d.mem.length cO) vt LC LK S d) (hx : LK[who]? = some ⟨k, .slice (some ⟨gr, 0, none⟩) 8 cr, .slice (some ⟨gv, 0, none⟩) 24 cv⟩) (h8 : k.regs.length = 8) (hvw : viewB d.mem k.vw = true) (hmem : memB d.mem = true) (hc : c < 24) (hr' : r' < 8) (hb' : b' < 8) (lb : w.cell? ⟨gr, b', none⟩ = some (.int .i64 vb)) (hlr : d.mem[c]? = some lr) (hr : S[c]? = some r) (hroom : lr.length < 4000) (hB : B ≤ w.heap.size) (nR : R ≠ gv) (nM : bm ≠ gv) (nR2 : R ≠ gr) (nM2 : bm ≠ gr) (nK : gk ≠ gv) (nC : gc ≠ gv) (nK2 : gk ≠ gr) (nC2 : gc ≠ gr) :
  Calls Tryz.prog 162 #[.pointer (some ⟨R,0,none⟩),.agg #[.int .i64 8,.int .i64 r',.int .i64 a,.int .i64 b',.int .i64 c],.int .i64 c] w fun e w'=>e=.returned (.bool true)∧∃ LK' rs',MQ w' B Hq vc vk (.slice (some ⟨gO,0,none⟩) d.mem.length cO) vt LC LK' (S.set c rs') { putK d who ⟨k.pc,k.regs.set r' (ldX d.mem k.vw c 0).v,(ldW d.mem k.vw c 0 true).set c (lr.length:Int),k.st⟩ with mem:=d.mem.set c (lr++[⟨vb,toldL (ldW d.mem k.vw c 0 true) c lr.length true⟩]) }∧LK'[who]? =some ⟨⟨k.pc,k.regs.set r' (ldX d.mem k.vw c 0).v,(ldW d.mem k.vw c 0 true).set c (lr.length:Int),k.st⟩,.slice (some ⟨gr,0,none⟩) 8 cr,.slice (some ⟨gv,0,none⟩) 24 cv⟩∧LK'.length=LK.length∧Below B w w'∧∀ b',b' < w.heap.size→b'≠gv→b'≠gr→b'≠gO→r.val.ownBlock≠some b'→w'.heap[b']? =w.heap[b']? :=by
 obtain ⟨V,hV⟩:∃ V,w.alloc (.cells #[.int .i64 8,.int .i64 r',.int .i64 a,.int .i64 b',.int .i64 c] 141)=V:=⟨_,rfl⟩
 have kv:Below w.heap.size w V:=by subst hV;exact (Below.refl _ _).alloc (Nat.le_refl _) _
 have KV:=hidM1 kv
 have zV:=kv.size
 have QV:=hq.keep (w':=V) (fun b _ h1=>kv.block b h1) zV
 have SW:=hidM1 (swapY c r' b' 8 a vb lr r (h.below kv) QV hx h8 hvw hmem hc hr' hb' ((kv.cell (p:=⟨gr,b',none⟩) h.zr).trans lb) hlr hr hroom (by omega) nR nM nR2 nM2 nK nC nK2 nC2)
 obtain ⟨r0,r1,r2,r3,r4,m0,m1,m2,m3,fm,ec,c0,k0,k1,k3,fk,wc,zR,zm,zk,zc,zr⟩:=h
 have HV:=hidM1 hV
 clear hq hx h8 hvw hmem hlr hr QV kv hV
 go_enter Tryz.func162,Tryz.ntmps162
 go_wp2_with fail
 rw [HV.out]
 refine Calls.mono SW.out ?_
 rintro e w7 ⟨rfl,LK7,r7,q7,x7,n7,b7,f7⟩
 have Q7:=hidM1 q7
 have X7:=hidM1 x7
 have N7:=hidM1 n7
 have B7:=hidM1 b7
 have F7:=hidM1 f7
 clear q7 b7 f7 x7 n7
 go_wp2
 go_ret
 exact ⟨rfl,LK7,r7,Q7.out,X7.out,N7.out,(KV.out.mono hB).trans B7.out,fun b' h1 h2 h3 h4 h5=>(F7.out b' (by omega) h2 h3 h4 h5).trans (KV.out.block b' h1)⟩
set_option maxHeartbeats 2000000 in
theorem touch8n {Hq : Nat → Prop} {w : World} {B R bm gk gc gs gr gv who nn cv cr cs gO cO : Nat} {late : Int} {vc vk vt : Value} {nc cc : Nat} {pc st : Int} {LC : List CV} {LK : List KV} {S : List RS} {d : MD} {k : KD} (c r' b' : Nat) (a vb : Int) (lr : List WD) (r : RS) (h : Rn w R bm gk gc gs gr gv who nn cv cr cs late vc vk (.slice (some ⟨gO, 0, none⟩) d.mem.length cO) vt nc cc pc st) (hq : MQ w B Hq vc vk (.slice (some ⟨gO, 0, none⟩) d.mem.length cO) vt LC LK S d) (hx : LK[who]? = some ⟨k, .slice (some ⟨gr, 0, none⟩) 8 cr, .slice (some ⟨gv, 0, none⟩) 24 cv⟩) (h8 : k.regs.length = 8) (hvw : viewB d.mem k.vw = true) (hmem : memB d.mem = true) (hc : c < 24) (hr' : r' < 8) (hb' : b' < 8) (lb : w.cell? ⟨gr, b', none⟩ = some (.int .i64 vb)) (hlr : d.mem[c]? = some lr) (hr : S[c]? = some r) (hroom : ¬ lr.length < 4000) (hB : B ≤ w.heap.size) (nR : R ≠ gv) (nM : bm ≠ gv) (nR2 : R ≠ gr) (nM2 : bm ≠ gr) (nK : gk ≠ gv) (nC : gc ≠ gv) (nK2 : gk ≠ gr) (nC2 : gc ≠ gr) :
  Calls Tryz.prog 162 #[.pointer (some ⟨R,0,none⟩),.agg #[.int .i64 8,.int .i64 r',.int .i64 a,.int .i64 b',.int .i64 c],.int .i64 c] w fun e w'=>e=.returned (.bool false)∧∃ LK',MQ w' B Hq vc vk (.slice (some ⟨gO,0,none⟩) d.mem.length cO) vt LC LK' S (putK d who ⟨k.pc,k.regs.set r' (ldX d.mem k.vw c 0).v,ldW d.mem k.vw c 0 true,k.st⟩)∧LK'[who]? =some ⟨⟨k.pc,k.regs.set r' (ldX d.mem k.vw c 0).v,ldW d.mem k.vw c 0 true,k.st⟩,.slice (some ⟨gr,0,none⟩) 8 cr,.slice (some ⟨gv,0,none⟩) 24 cv⟩∧(LK'.length=LK.length∧∀ j,j≠who→LK'[j]? =LK[j]?)∧Below B w w'∧∀ b',b' < w.heap.size→b'≠gv→b'≠gr→w'.heap[b']? =w.heap[b']? :=by
 obtain ⟨V,hV⟩:∃ V,w.alloc (.cells #[.int .i64 8,.int .i64 r',.int .i64 a,.int .i64 b',.int .i64 c] 141)=V:=⟨_,rfl⟩
 have kv:Below w.heap.size w V:=by subst hV;exact (Below.refl _ _).alloc (Nat.le_refl _) _
 have KV:=hidM1 kv
 have zV:=kv.size
 have QV:=hq.keep (w':=V) (fun b _ h1=>kv.block b h1) zV
 have SW:=hidM1 (swapN c r' b' 8 a vb lr r (h.below kv) QV hx h8 hvw hmem hc hr' hb' ((kv.cell (p:=⟨gr,b',none⟩) h.zr).trans lb) hlr hr hroom (by omega) nR nM nR2 nM2 nK nC nK2 nC2)
 obtain ⟨r0,r1,r2,r3,r4,m0,m1,m2,m3,fm,ec,c0,k0,k1,k3,fk,wc,zR,zm,zk,zc,zr⟩:=h
 have HV:=hidM1 hV
 clear hq hx h8 hvw hmem hlr hr QV kv hV
 go_enter Tryz.func162,Tryz.ntmps162
 go_wp2_with fail
 rw [HV.out]
 refine Calls.mono SW.out ?_
 rintro e w7 ⟨rfl,LK7,q7,x7,n7,b7,f7⟩
 have Q7:=hidM1 q7
 have X7:=hidM1 x7
 have N7:=hidM1 n7
 have B7:=hidM1 b7
 have F7:=hidM1 f7
 clear q7 b7 f7 x7 n7
 go_wp2
 go_ret
 exact ⟨rfl,LK7,Q7.out,X7.out,N7.out,(KV.out.mono hB).trans B7.out,fun b' h1 h2 h3=>(F7.out b' (by omega) h2 h3).trans (KV.out.block b' h1)⟩
end
section
set_option linter.unusedSimpArgs false
set_option linter.unusedVariables false
set_option maxRecDepth 100000
open Go.RowKit
theorem Rn.off {w:World} {R bm gk gc gs gr gv who n cv cr cs g j:Nat} {late:Int} {vc vk vm vt v:Value} {nc cc:Nat} {pc st:Int} (h:Rn w R bm gk gc gs gr gv who n cv cr cs late vc vk vm vt nc cc pc st) (h1:R≠g) (h2:bm≠g) (h3:gk≠g) (h4:gc≠g):Rn (w.setCell ⟨g,j,none⟩ v) R bm gk gc gs gr gv who n cv cr cs late vc vk vm vt nc cc pc st:=by
 obtain ⟨r0,r1,r2,r3,r4,m0,m1,m2,m3,fm,ec,c0,k0,k1,k3,fk,wc,zR,zm,zk,zc,zr⟩:=h
 have kb:∀ b,b≠g→(w.setCell ⟨g,j,none⟩ v).heap[b]? =w.heap[b]? :=fun b hb=>Below.heap_setCell _ _ _ b hb
 have cR:∀ i,(w.setCell ⟨g,j,none⟩ v).cell? ⟨R,i,none⟩=w.cell? ⟨R,i,none⟩:=fun i=>World.cell?_of_block (kb R h1)
 have cM:∀ i,(w.setCell ⟨g,j,none⟩ v).cell? ⟨bm,i,none⟩=w.cell? ⟨bm,i,none⟩:=fun i=>World.cell?_of_block (kb bm h2)
 have cK:∀ i,(w.setCell ⟨g,j,none⟩ v).cell? ⟨gk,i,none⟩=w.cell? ⟨gk,i,none⟩:=fun i=>World.cell?_of_block (kb gk h3)
 exact ⟨(cR _).trans r0,(cR _).trans r1,(cR _).trans r2,(cR _).trans r3,(cR _).trans r4,(cM _).trans m0,(cM _).trans m1,(cM _).trans m2,(cM _).trans m3,fun i=>(World.frozen?_of_block (kb bm h2)).trans (fm i),ec,(World.cell?_of_block (kb gc h4)).trans c0,(cK _).trans k0,(cK _).trans k1,(cK _).trans k3,fun i=>(World.frozen?_of_block (kb gk h3)).trans (fk i),wc,by simpa using zR,by simpa using zm,by simpa using zk,by simpa using zc,by simpa using zr⟩
theorem stepAt_reck (d:MD) (who:Nat) (late:Int) (k:KD) (n:Nat) (op:Int) (r' a' b':Nat) (nn:Int) (hop:op=1∨op=2∨op=3∨op=4):stepAt d who late k n ⟨op,r',a',b',nn⟩=(goM d who { k with regs:=k.regs.set r' (reckV op nn (k.regs.getD a' 0) (k.regs.getD b' 0)) } n (k.pc+1),0):=by
 rcases hop with rfl | rfl | rfl | rfl
 ·rw [stepAt1 _ _ _ _ _ _ rfl];rfl
 ·rw [stepAt2 _ _ _ _ _ _ rfl];rfl
 ·rw [stepAt3 _ _ _ _ _ _ rfl];rfl
 ·rw [stepAt4 _ _ _ _ _ _ rfl]
  unfold setR regA
  simp [reckV,bitN]
theorem reckon_any {w : World} {R bm gk gc gs gr gv who n cv cr cs : Nat} {late : Int} {vc vk vm vt : Value} {nc cc : Nat} {pc st : Int} (op : Int) (hop : op = 1 ∨ op = 2 ∨ op = 3 ∨ op = 4) (r' a' b' : Nat) (nn va vb v0 : Int) (h : Rn w R bm gk gc gs gr gv who n cv cr cs late vc vk vm vt nc cc pc st) (hr : r' < 8) (ha : a' < 8) (hb : b' < 8) (lr : w.cell? ⟨gr, r', none⟩ = some (.int .i64 v0)) (la : w.cell? ⟨gr, a', none⟩ = some (.int .i64 va)) (lb : w.cell? ⟨gr, b', none⟩ = some (.int .i64 vb)) (fr : ∀ j, w.frozen? ⟨gr, j, none⟩ = false) :
  Calls Tryz.prog 159 #[.pointer (some ⟨R,0,none⟩),.agg #[.int .i64 op,.int .i64 r',.int .i64 a',.int .i64 b',.int .i64 nn]] w fun e w'=>e=.returned (.tuple #[])∧Below w.heap.size (w.setCell ⟨gr,r',none⟩ (.int .i64 (reckV op nn va vb))) w':=by
 rcases hop with rfl | rfl | rfl | rfl
 ·exact reckon1 r' a' b' nn va vb v0 h hr ha hb lr la lb fr
 ·exact reckon2 r' a' b' nn va vb v0 h hr ha hb lr la lb fr
 ·exact reckon3 r' a' b' nn va vb v0 h hr ha hb lr la lb fr
 ·exact reckon4 r' a' b' nn va vb v0 h hr ha hb lr la lb fr
set_option maxHeartbeats 8000000 in
theorem do14 {Hq : Nat → Prop} {w : World} {B R bm gk gc gs gr gv who n cv cr cs ck N p : Nat} {late : Int} {vc vm vt : Value} {nc cc : Nat} {st : Int} {LC : List CV} {LK : List KV} {S : List RS} {d : MD} {k : KD} (op : Int) (hop : op = 1 ∨ op = 2 ∨ op = 3 ∨ op = 4) (r' a' b' : Nat) (nn : Int) (h : Rn w R bm gk gc gs gr gv who n cv cr cs late vc (.slice (some ⟨gk, 0, none⟩) N ck) vm vt nc cc p st) (hq : MQ w B Hq vc (.slice (some ⟨gk, 0, none⟩) N ck) vm vt LC LK S d) (hN : LK.length = N) (hx : LK[who]? = some ⟨k, .slice (some ⟨gr, 0, none⟩) 8 cr, .slice (some ⟨gv, 0, none⟩) 24 cv⟩) (hp : k.pc = p) (h8 : k.regs.length = 8) (hr : r' < 8) (ha : a' < 8) (hb : b' < 8) (hn8 : n ≤ 800) (hpn : p < n) (hB : B ≤ w.heap.size) (nR2 : R ≠ gr) (nM2 : bm ≠ gr) (nK2 : gk ≠ gr) (nC2 : gc ≠ gr) :
  Calls Tryz.prog 158 #[.pointer (some ⟨R,0,none⟩),.agg #[.int .i64 op,.int .i64 r',.int .i64 a',.int .i64 b',.int .i64 nn]] w fun e w'=>e=.returned (.int .i64 0)∧∃ LK',MQ w' B Hq vc (.slice (some ⟨gk,0,none⟩) N ck) vm vt LC LK' S (stepAt d who late k n ⟨op,r',a',b',nn⟩).1∧Below B w w'∧∀ b',b' < w.heap.size→b'≠gr→b'≠gk→w'.heap[b']? =w.heap[b']? :=by
 obtain ⟨V,hV⟩:∃ V,w.alloc (.cells #[.int .i64 op,.int .i64 r',.int .i64 a',.int .i64 b',.int .i64 nn] 141)=V:=⟨_,rfl⟩
 have kv:Below w.heap.size w V:=by subst hV;exact (Below.refl _ _).alloc (Nat.le_refl _) _
 have zV:w.heap.size < V.heap.size:=by subst hV;simp
 have QV:=hq.keep (w':=V) (fun b _ h1=>kv.block b h1) kv.size
 have hrn:=(QV.k.inn who _ hx).1
 have hrn':OwnN V B (.slice (some ⟨gr,0,none⟩) k.regs.length cr) k.regs:=by rw [h8];exact hrn
 have RV:=h.below kv
 have bgr:B≤gr:=(World.ownsRow.lt hrn gr rfl).1
 have bgk:B≤gk:=(World.ownsRow.lt hq.k.row gk rfl).1
 obtain ⟨z,hz⟩:∃ z,reckV op nn (k.regs.getD a' 0) (k.regs.getD b' 0)=z:=⟨_,rfl⟩
 have RK:=reckon_any op hop r' a' b' nn _ _ _ RV hr ha hb (hrn'.cell (by omega)) (hrn'.cell (by omega)) (hrn'.cell (by omega)) (fun j=>World.ownsRow.frozenAt hrn' j)
 rw [hz] at RK
 have HRK:=hidM1 RK
 have Q1:=QV.reg hx h8 r' z
 have R1:=RV.off (g:=gr) (j:=r') (v:=.int .i64 z) nR2 nM2 nK2 nC2
 have HQ1:=hidM1 Q1
 have HR1:=hidM1 R1
 have HX:=hidM1 hx
 have KV:=hidM1 kv
 have EQ:Hid (stepAt d who late k n ⟨op,r',a',b',nn⟩=(goM d who { k with regs:=k.regs.set r' z } n (p+1),0)):=by
  show _=_
  rw [stepAt_reck d who late k n op r' a' b' nn hop,hz,hp]
 have HV:=hidM1 hV
 obtain ⟨r0,r1,r2,r3,r4,m0,m1,m2,m3,fm,ec,c0,k0,k1,k3,fk,wc,zR,zm,zk,zc,zr⟩:=h
 have w1:IntKind.i64.wrap ((p:Int)+1)=(p:Int)+1:=Go.IntWalk.i64_in _ (by omega)
 clear hq hx QV hrn hrn' RV RK Q1 R1 kv hV hz r0 r1 r2 r3 r4 m0 m1 m2 m3 fm c0 k0 k1 k3 fk
 rcases hop with rfl | rfl | rfl | rfl
 all_goals
  go_enter Tryz.func158,Tryz.ntmps158
  go_wp2_with fail
  rw [HV.out]
  refine Calls.mono HRK.out ?_
  rintro e w5 ⟨rfl,hb5⟩
  have sz:(V.setCell ⟨gr,r',none⟩ (.int .i64 z)).heap.size=V.heap.size:=by simp
  have hb5':Below (V.setCell ⟨gr,r',none⟩ (.int .i64 z)).heap.size (V.setCell ⟨gr,r',none⟩ (.int .i64 z)) w5:=by rw [sz];exact hb5
  have R5:=HR1.out.below hb5'
  have Q5:=hidM1 (HQ1.out.keep (w':=w5) (fun b _ h1=>hb5'.block b h1) hb5'.size)
  have HB5:=hidM1 hb5
  have HR5:=hidM1 R5
  obtain ⟨r0,r1,r2,r3,r4,m0,m1,m2,m3,fm,ec',c0,k0,k1,k3,fk,wc',zR',zm',zk',zc',zr'⟩:=R5
  clear hb5 hb5' sz ec'
  by_cases hin:(p:Int)+1 < (n:Int)
  ·have GT:=hidM1 (goTo_yes ((p:Int)+1) HR5.out (by omega) hin)
   go_wp2_with fail
   refine Calls.mono GT.out ?_
   rintro e w6 ⟨rfl,hb6⟩
   have HB6:=hidM1 hb6
   clear hb6
   go_wp2
   go_ret
   obtain ⟨LK2,q2⟩:=MQ.go (n:=n) Q5.out (by rw [List.length_set];exact hN) (set_at HX.out) (p+1) hin (F:=w6) (fun b hb=>HB6.out.block b hb) (by simpa using HB6.out.size)
   rw [goM_put] at q2
   refine ⟨rfl,LK2,by rw [EQ.out];exact q2,?_,fun b' h1 h2 h3=>?_⟩
   ·have s5:=HB5.out.size
    simp at s5
    exact ((((KV.out.mono hB).setCell (p:=⟨gr,r',none⟩) bgr _).trans (HB5.out.mono (by omega))).setCell (p:=⟨gk,who * 4,none⟩) bgk _).trans (HB6.out.mono (by omega))
   ·have s5:=HB5.out.size
    simp at s5
    exact (HB6.out.block b' (by omega)).trans ((Below.heap_setCell _ ⟨gk,_,none⟩ _ b' h3).trans ((HB5.out.block b' (by omega)).trans ((Below.heap_setCell _ ⟨gr,_,none⟩ _ b' h2).trans (KV.out.block b' h1))))
  ·have GT:=hidM1 (goTo_no ((p:Int)+1) HR5.out (by omega))
   go_wp2_with fail
   refine Calls.mono GT.out ?_
   rintro e w6 ⟨rfl,hb6⟩
   have HB6:=hidM1 hb6
   clear hb6
   go_wp2
   go_ret
   obtain ⟨LK2,q2⟩:=MQ.no (n:=n) Q5.out (by rw [List.length_set];exact hN) (set_at HX.out) (p+1) (by omega) (F:=w6) (fun b hb=>HB6.out.block b hb) (by simpa using HB6.out.size)
   rw [goM_put] at q2
   refine ⟨rfl,LK2,by rw [EQ.out];exact q2,?_,fun b' h1 h2 h3=>?_⟩
   ·have s5:=HB5.out.size
    simp at s5
    exact ((((KV.out.mono hB).setCell (p:=⟨gr,r',none⟩) bgr _).trans (HB5.out.mono (by omega))).setCell (p:=⟨gk,who * 4+3,none⟩) bgk _).trans (HB6.out.mono (by omega))
   ·have s5:=HB5.out.size
    simp at s5
    exact (HB6.out.block b' (by omega)).trans ((Below.heap_setCell _ ⟨gk,_,none⟩ _ b' h3).trans ((HB5.out.block b' (by omega)).trans ((Below.heap_setCell _ ⟨gr,_,none⟩ _ b' h2).trans (KV.out.block b' h1))))
end
end Go.Proofs.YtlbeploopclegaaGreat
