/- A runner of the program loads. Condition: late is a number of 64 bits. A runner of the program goes for memory: a load. Condition: late is a number of 64 bits. -/
import Derived.Test.YtepfpbcjklaenaaGreatJG00
import Derived.Test.YtepfpbcjklaenaaGreatJG01
import Derived.Test.YtepfpbcjklaenaaGreatJG08
import Derived.Test.YtepfpbcjklaenaaGreatJG11
import Derived.Test.YtepfpbcjklaenaaGreatJG02
import Derived.Test.YtepfpbcjklaenaaGreatJG14
import Derived.Test.YtepfpbcjklaenaaGreatJG13
import Derived.Test.YtepfpbcjklaenaaGreatJG17
import Derived.Test.YtepfpbcjklaenaaGreatJG04
import Derived.Test.YtepfpbcjklaenaaGreatJG10
import Derived.Test.YtepfpbcjklaenaaGreatJG15
import Derived.Test.YtepfpbcjklaenaaGreatJKIm1
namespace Go.Proofs.YtepfpbcjklaenaaGreat
section
set_option linter.unusedSimpArgs false
set_option linter.unusedVariables false
set_option maxRecDepth 100000
open Go.RowKit
/- what the load of a view that is right answers -/
theorem loadQ {Hq : Nat → Prop} {w : World} {B gv cv gO cO who : Nat} {vc vk vt rv : Value} {LC : List CV} {LK : List KV} {S : List RS} {d : MD} {k : KD} (c : Nat) (late : Int) (hold : Bool) (hq : MQ w B Hq vc vk (.slice (some ⟨gO, 0, none⟩) d.mem.length cO) vt LC LK S d) (hx : LK[who]? = some ⟨k, rv, .slice (some ⟨gv, 0, none⟩) 24 cv⟩) (hvw : viewB d.mem k.vw = true) (hmem : memB d.mem = true) (hc : c < 24) (hlate : late ≤ 9223372036854775807) :
  Calls Tryz.prog 123 #[.slice (some ⟨gv,0,none⟩) 24 cv,.agg #[.slice (some ⟨gO,0,none⟩) d.mem.length cO],.int .i64 c,.int .i64 late,.bool hold] w fun e w'=>e=.returned (.int .i64 (ldX d.mem k.vw c late).v)∧MQ w' B Hq vc vk (.slice (some ⟨gO,0,none⟩) d.mem.length cO) vt LC (LK.set who ⟨{ k with vw:=ldW d.mem k.vw c late hold },rv,.slice (some ⟨gv,0,none⟩) 24 cv⟩) S (putK d who { k with vw:=ldW d.mem k.vw c late hold })∧Exc gv (gv+1) w w':=by
 obtain ⟨h24,lr,hlr,elr,h1,h4,-⟩:=memB_at hmem hc
 have hvl:k.vw.length=24:=by have:=(viewB_iff.1 hvw).1;omega
 obtain ⟨sM,cM,eM,mR⟩:=hq.m.memw
 injection eM with eM e2 e3
 clear e2
 subst eM
 subst e3
 obtain ⟨kk,rr2,ekk,hRt⟩:=right_of (m:=d.mem) (l:=k.vw) (cell:=(c:Int)) (by unfold rightB;rw [hmem,hvw];simp;omega)
 have ekk:kk=c:=by omega
 subst ekk
 have ekr:rr2=lr:=by have:=hRt.hr;rw [hlr] at this;injection this with this;exact this.symm
 subst ekr
 obtain ⟨hj1,hj2⟩:=ldJ_lt late hmem hvw hc
 obtain ⟨rr3,hr3,hx3,-⟩:=ldX_at late hmem hvw hc
 have er3:rr3=rr2:=by rw [hlr] at hr3;injection hr3 with hr3;exact hr3.symm
 subst er3
 rw [elr] at hj2
 have hvn:=(hq.k.inn who _ hx).2
 have hvn':OwnN w B (.slice (some ⟨gv,0,none⟩) k.vw.length cv) k.vw:=by rw [hvl];exact hvn
 have hav:MemAv w (some ⟨gO,0,none⟩) d.mem gv:=hq.m.av (own_ty hvn rfl) (fun a ha=>hq.sk who _ gv hx (.inr rfl) a ha)
 have LD:=load_any (some ⟨gO,0,none⟩) cO B w.heap.size B gv cv d.mem k.vw kk rr3 late hold (ldJ d.mem k.vw kk late) (ldX d.mem k.vw kk late) w mR hvn' (Nat.le_refl _) hav hRt hlate hj2 hx3
 rw [hvl,ldW_eq] at LD
 refine Calls.mono LD ?_
 rintro e w' ⟨rfl,ho,he⟩
 exact ⟨rfl,MQ.viewL hq hx rfl ho he,he⟩
end
section
set_option linter.unusedSimpArgs false
set_option linter.unusedVariables false
set_option maxRecDepth 100000
open Go.RowKit
set_option maxHeartbeats 2000000 in
theorem touch5 {Hq : Nat → Prop} {w : World} {B R bm gk gc gs gr gv who nn cv cr cs gO cO : Nat} {late : Int} {vc vk vt : Value} {nc cc : Nat} {pc st : Int} {LC : List CV} {LK : List KV} {S : List RS} {d : MD} {k : KD} (c r' : Nat) (a b n : Int) (h : Rn w R bm gk gc gs gr gv who nn cv cr cs late vc vk (.slice (some ⟨gO, 0, none⟩) d.mem.length cO) vt nc cc pc st) (hq : MQ w B Hq vc vk (.slice (some ⟨gO, 0, none⟩) d.mem.length cO) vt LC LK S d) (hx : LK[who]? = some ⟨k, .slice (some ⟨gr, 0, none⟩) 8 cr, .slice (some ⟨gv, 0, none⟩) 24 cv⟩) (h8 : k.regs.length = 8) (hvw : viewB d.mem k.vw = true) (hmem : memB d.mem = true) (hc : c < 24) (hr : r' < 8) (hlate : late ≤ 9223372036854775807) (hB : B ≤ w.heap.size) (nR : R ≠ gv) (nM : bm ≠ gv) :
  Calls Tryz.prog 111 #[.pointer (some ⟨R,0,none⟩),.agg #[.int .i64 5,.int .i64 r',.int .i64 a,.int .i64 b,.int .i64 n],.int .i64 c] w fun e w'=>e=.returned (.bool true)∧∃ LK',MQ w' B Hq vc vk (.slice (some ⟨gO,0,none⟩) d.mem.length cO) vt LC LK' S (putK d who { k with regs:=k.regs.set r' (ldX d.mem k.vw c late).v,vw:=ldW d.mem k.vw c late false })∧LK'[who]? =some ⟨{ k with regs:=k.regs.set r' (ldX d.mem k.vw c late).v,vw:=ldW d.mem k.vw c late false },.slice (some ⟨gr,0,none⟩) 8 cr,.slice (some ⟨gv,0,none⟩) 24 cv⟩∧LK'.length=LK.length∧Below B w w'∧∀ b',b' < w.heap.size→b'≠gv→b'≠gr→w'.heap[b']? =w.heap[b']? :=by
 have HQ:=hidM1 hq
 have HX:=hidM1 hx
 have H8:=hidM1 h8
 have bgv:B≤gv:=(World.ownsRow.lt (hq.k.inn who _ hx).2 gv rfl).1
 have bgr:B≤gr:=(World.ownsRow.lt (hq.k.inn who _ hx).1 gr rfl).1
 have hne':gr≠gv:=fun e=>hq.k.two who _ gr hx rfl (by rw [e];rfl)
 obtain ⟨r0,r1,r2,r3,r4,m0,m1,m2,m3,fm,ec,c0,k0,k1,k3,fk,wc,zR,zm,zk,zc,zr⟩:=h
 have br0:(0:Int)≤(r':Int):=by omega
 have br1:(r':Int) < 8:=by omega
 have HW:=hidM1 hvw
 have HME:=hidM1 hmem
 clear hq hx h8 hvw hmem
 go_enter Tryz.func111,Tryz.ntmps111
 go_wp2_with fail
 obtain ⟨V,hV⟩:∃ V,w.alloc (.cells #[.int .i64 5,.int .i64 r',.int .i64 a,.int .i64 b,.int .i64 n] 99)=V:=⟨_,rfl⟩
 have kv:Below w.heap.size w V:=by subst hV;exact (Below.refl _ _).alloc (Nat.le_refl _) _
 have zv:w.heap.size < V.heap.size:=by subst hV;simp
 have t1:V.cell? ⟨w.heap.size,1,none⟩=some (.int .i64 r'):=by subst hV;simp [go_sem]
 rw [hV]
 have KV:=hidM1 kv
 have QV:=hidM1 (HQ.out.keep (w':=V.drew) (fun b _ h1=>kv.block b h1) kv.size)
 have LD:=hidM1 (loadQ c late false QV.out HX.out HW.out HME.out hc hlate)
 have zgv:gv < w.heap.size:=(World.ownsRow.lt (HQ.out.k.inn who _ HX.out).2 gv rfl).2
 have hne:=extP_ne V (fun b=>b=gv)
 have u1:=ExtP.fit (E:=fun b=>b=gv) t1 zv (by omega)
 have u2:=ExtP.fit (E:=fun b=>b=gv) ((kv.cell (p:=⟨R,0,none⟩) zR).trans r0) (by omega) nR
 have u3:=ExtP.fit (E:=fun b=>b=gv) ((kv.cell (p:=⟨R,2,none⟩) zR).trans r2) (by omega) nR
 have u4:=ExtP.fit (E:=fun b=>b=gv) ((kv.cell (p:=⟨R,4,none⟩) zR).trans r4) (by omega) nR
 have u5:=ExtP.fit (E:=fun b=>b=gv) ((kv.cell (p:=⟨bm,2,none⟩) zm).trans m2) (by omega) nM
 refine regionMix V (CP V (fun b=>b=gv)) 20 21 (by kernel_rfl) (by kernel_rfl) (fun _ _ d _ _ h=>by cases d<;>exact h) (CP.drew _ _) ?_
 unfold CP
 dsimp only [List.take,List.drop]
 repeat (go_big_quiet_step (fail))
 refine wpQuiet_nil ?_
 clear hne u1 u2 u3 u4 u5
 unfold wpListC
 go_wp2_with (go_at_call 123;refine Calls.mono LD.out ?_;rintro e w5 ⟨rfl,q5,x5⟩)
 refine And.intro (fun _ hc=>CP.on hc x5.os x5.tape x5.out x5.size (fun b h1 h2=>x5.blk b h1 (by omega))) ?_
 refine listC_late _ _ _ _ (by decide) ?_
 obtain ⟨xv,hxv⟩:∃ xv,(ldX d.mem k.vw c late).v=xv:=⟨_,rfl⟩
 rw [hxv]
 have hrn:=(q5.k.inn who _ (set_at HX.out)).1
 have hrn':OwnN w5 B (.slice (some ⟨gr,0,none⟩) k.regs.length cr) k.regs:=by rw [H8.out];exact hrn
 have lr:=hrn'.cell (i:=r') (by rw [H8.out];omega)
 have fr:∀ j,w5.frozen? ⟨gr,j,none⟩=false:=fun j=>World.ownsRow.frozenAt hrn' j
 have Q5:=hidM1 q5
 have X5:=hidM1 x5
 have zr5:gr < w5.heap.size:=(World.ownsRow.lt hrn gr rfl).2
 clear q5 x5 hrn hrn' hV kv t1 r0 r1 r2 r3 r4 m0 m1 m2 m3 fm c0 k0 k1 k3 fk
 go_wp2
 go_ret
 have q6:=Q5.out.reg (set_at HX.out) H8.out r' xv
 rw [putK_putK] at q6
 have zdr:V.drew.heap.size=V.heap.size:=rfl
 subst hxv
 refine ⟨rfl,_,q6,set_at (set_at HX.out),?_,?_,fun b' h1 h2 h3=>?_⟩
 ·simp
 ·have kd:Below B w w5:=⟨X5.out.os.trans KV.out.os,X5.out.tape.trans KV.out.tape,X5.out.out.trans KV.out.output,by have:=X5.out.size;omega,fun b hb=>(X5.out.blk b (by omega) (by omega)).trans (KV.out.block b (by omega))⟩
  exact kd.setCell (p:=⟨gr,r',none⟩) bgr _
 ·exact (Below.heap_setCell _ ⟨gr,_,none⟩ _ b' h3).trans ((X5.out.blk b' (by omega) (by omega)).trans (KV.out.block b' h1))
end
end Go.Proofs.YtepfpbcjklaenaaGreat
