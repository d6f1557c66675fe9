/- A runner of the program goes for memory: a store, what is let go. No condition. A runner of the program swaps. No condition. -/
import Derived.Test.YtlbeploopclegaaGreatPG00
import Derived.Test.YtlbeploopclegaaGreatPMemStore
import Derived.Test.YtlbeploopclegaaGreatPMemOk
import Derived.Test.YtlbeploopclegaaGreatPG01
import Derived.Test.YtlbeploopclegaaGreatPG12
import Derived.Test.YtlbeploopclegaaGreatPG11
import Derived.Test.YtlbeploopclegaaGreatPG15
import Derived.Test.YtlbeploopclegaaGreatPG14
import Derived.Test.YtlbeploopclegaaGreatPG03
import Derived.Test.YtlbeploopclegaaGreatPG13
namespace Go.Proofs.YtlbeploopclegaaGreat
section
set_option linter.unusedSimpArgs false
set_option linter.unusedVariables false
set_option maxRecDepth 100000
open Go.RowKit
set_option maxHeartbeats 1000000 in
theorem touch6y {Hq : Nat → Prop} {w : World} {B R bm gk gc gs gr gv who nn cv cr cs gO cO : Nat} {late : Int} {vc vk vt : Value} {nc cc : Nat} {pc st : Int} {LC : List CV} {LK : List KV} {S : List RS} {d : MD} {k : KD} (c b' : Nat) (r0_ a n vb : Int) (lr : List WD) (r : RS) (h : Rn w R bm gk gc gs gr gv who nn cv cr cs late vc vk (.slice (some ⟨gO, 0, none⟩) d.mem.length cO) vt nc cc pc st) (hq : MQ w B Hq vc vk (.slice (some ⟨gO, 0, none⟩) d.mem.length cO) vt LC LK S d) (hx : LK[who]? = some ⟨k, .slice (some ⟨gr, 0, none⟩) 8 cr, .slice (some ⟨gv, 0, none⟩) 24 cv⟩) (hvl : k.vw.length = 24) (hmem : memB d.mem = true) (hc : c < 24) (hb : b' < 8) (lb : w.cell? ⟨gr, b', none⟩ = some (.int .i64 vb)) (hlr : d.mem[c]? = some lr) (hr : S[c]? = some r) (hroom : lr.length < 4000) (hB : B ≤ w.heap.size) :
  Calls Tryz.prog 162 #[.pointer (some ⟨R,0,none⟩),.agg #[.int .i64 6,.int .i64 r0_,.int .i64 a,.int .i64 b',.int .i64 n],.int .i64 c] w fun e w'=>e=.returned (.bool true)∧∃ r',MQ w' B Hq vc vk (.slice (some ⟨gO,0,none⟩) d.mem.length cO) vt LC (LK.set who ⟨{ k with vw:=k.vw.set c (lr.length:Int) },.slice (some ⟨gr,0,none⟩) 8 cr,.slice (some ⟨gv,0,none⟩) 24 cv⟩) (S.set c r') { putK d who { k with vw:=k.vw.set c (lr.length:Int) } with mem:=d.mem.set c (lr++[⟨vb,toldL k.vw c lr.length false⟩]) }∧Below B w w'∧∀ b',b' < w.heap.size→b'≠gv→b'≠gO→r.val.ownBlock≠some b'→w'.heap[b']? =w.heap[b']? :=by
 obtain ⟨V,hV⟩:∃ V,w.alloc (.cells #[.int .i64 6,.int .i64 r0_,.int .i64 a,.int .i64 b',.int .i64 n] 141)=V:=⟨_,rfl⟩
 have kv:Below w.heap.size w V:=by subst hV;exact (Below.refl _ _).alloc (Nat.le_refl _) _
 have KV:=hidM1 kv
 have zV:=kv.size
 have QV:=hq.keep (w':=V) (fun b _ h1=>kv.block b h1) zV
 have RV:=h.below kv
 have WR:=hidM1 (write_yes c lr r vb false RV QV hx hvl hmem hc hlr hr hroom)
 obtain ⟨r0,r1,r2,r3,r4,m0,m1,m2,m3,fm,ec,c0,k0,k1,k3,fk,wc,zR,zm,zk,zc,zr⟩:=h
 have bb0:(0:Int)≤(b':Int):=by omega
 have bb1:(b':Int) < 8:=by omega
 have HV:=hidM1 hV
 clear hq hx hvl hmem hlr hr QV RV kv hV
 go_enter Tryz.func162,Tryz.ntmps162
 go_wp2_with fail
 rw [HV.out]
 refine Calls.mono WR.out ?_
 rintro e w5 ⟨rfl,r',q5,b5,f5⟩
 have Q5:=hidM1 q5
 have B5:=hidM1 b5
 have F5:=hidM1 f5
 clear q5 b5 f5
 go_wp2
 go_ret
 exact ⟨rfl,r',Q5.out,(KV.out.mono hB).trans B5.out,fun b' h1 h2 h3 h4=>(F5.out b' (by omega) h2 h3 h4).trans (KV.out.block b' h1)⟩
set_option maxHeartbeats 1000000 in
theorem touch6n {Hq : Nat → Prop} {w : World} {B R bm gk gc gs gr gv who nn cv cr cs gO cO : Nat} {late : Int} {vc vk vt : Value} {nc cc : Nat} {pc st : Int} {LC : List CV} {LK : List KV} {S : List RS} {d : MD} {k : KD} (c b' : Nat) (r0_ a n vb : Int) (lr : List WD) (r : RS) (h : Rn w R bm gk gc gs gr gv who nn cv cr cs late vc vk (.slice (some ⟨gO, 0, none⟩) d.mem.length cO) vt nc cc pc st) (hq : MQ w B Hq vc vk (.slice (some ⟨gO, 0, none⟩) d.mem.length cO) vt LC LK S d) (hx : LK[who]? = some ⟨k, .slice (some ⟨gr, 0, none⟩) 8 cr, .slice (some ⟨gv, 0, none⟩) 24 cv⟩) (hvl : k.vw.length = 24) (hmem : memB d.mem = true) (hc : c < 24) (hb : b' < 8) (lb : w.cell? ⟨gr, b', none⟩ = some (.int .i64 vb)) (hlr : d.mem[c]? = some lr) (hr : S[c]? = some r) (hroom : ¬ lr.length < 4000) (hB : B ≤ w.heap.size) :
  Calls Tryz.prog 162 #[.pointer (some ⟨R,0,none⟩),.agg #[.int .i64 6,.int .i64 r0_,.int .i64 a,.int .i64 b',.int .i64 n],.int .i64 c] w fun e w'=>e=.returned (.bool false)∧Below w.heap.size w w':=by
 obtain ⟨V,hV⟩:∃ V,w.alloc (.cells #[.int .i64 6,.int .i64 r0_,.int .i64 a,.int .i64 b',.int .i64 n] 141)=V:=⟨_,rfl⟩
 have kv:Below w.heap.size w V:=by subst hV;exact (Below.refl _ _).alloc (Nat.le_refl _) _
 have KV:=hidM1 kv
 have zV:=kv.size
 have QV:=hq.keep (w':=V) (fun b _ h1=>kv.block b h1) zV
 have RV:=h.below kv
 have h24:=(memB_at hmem (i:=0) (by omega)).1
 have lO:=QV.m.cellc rfl hr hlr
 have WR:=hidM1 (write_no (c:=c) vb false RV lO (World.ownsRow.lt QV.m.row gO rfl).2 (by omega) hroom)
 clear lO h24
 obtain ⟨r0,r1,r2,r3,r4,m0,m1,m2,m3,fm,ec,c0,k0,k1,k3,fk,wc,zR,zm,zk,zc,zr⟩:=h
 have bb0:(0:Int)≤(b':Int):=by omega
 have bb1:(b':Int) < 8:=by omega
 have HV:=hidM1 hV
 clear hq hx hvl hmem hlr hr QV RV kv hV
 go_enter Tryz.func162,Tryz.ntmps162
 go_wp2_with fail
 rw [HV.out]
 refine Calls.mono WR.out ?_
 rintro e w5 ⟨rfl,b5⟩
 have B5:=hidM1 b5
 clear b5
 go_wp2
 go_ret
 exact ⟨rfl,KV.out.trans (B5.out.mono zV)⟩
set_option maxHeartbeats 1000000 in
theorem touch7y {Hq : Nat → Prop} {w : World} {B R bm gk gc gs gr gv who nn cv cr cs gO cO : Nat} {late : Int} {vc vk vt : Value} {nc cc : Nat} {pc st : Int} {LC : List CV} {LK : List KV} {S : List RS} {d : MD} {k : KD} (c b' : Nat) (r0_ a n vb : Int) (lr : List WD) (r : RS) (h : Rn w R bm gk gc gs gr gv who nn cv cr cs late vc vk (.slice (some ⟨gO, 0, none⟩) d.mem.length cO) vt nc cc pc st) (hq : MQ w B Hq vc vk (.slice (some ⟨gO, 0, none⟩) d.mem.length cO) vt LC LK S d) (hx : LK[who]? = some ⟨k, .slice (some ⟨gr, 0, none⟩) 8 cr, .slice (some ⟨gv, 0, none⟩) 24 cv⟩) (hvl : k.vw.length = 24) (hmem : memB d.mem = true) (hc : c < 24) (hb : b' < 8) (lb : w.cell? ⟨gr, b', none⟩ = some (.int .i64 vb)) (hlr : d.mem[c]? = some lr) (hr : S[c]? = some r) (hroom : lr.length < 4000) (hB : B ≤ w.heap.size) :
  Calls Tryz.prog 162 #[.pointer (some ⟨R,0,none⟩),.agg #[.int .i64 7,.int .i64 r0_,.int .i64 a,.int .i64 b',.int .i64 n],.int .i64 c] w fun e w'=>e=.returned (.bool true)∧∃ r',MQ w' B Hq vc vk (.slice (some ⟨gO,0,none⟩) d.mem.length cO) vt LC (LK.set who ⟨{ k with vw:=k.vw.set c (lr.length:Int) },.slice (some ⟨gr,0,none⟩) 8 cr,.slice (some ⟨gv,0,none⟩) 24 cv⟩) (S.set c r') { putK d who { k with vw:=k.vw.set c (lr.length:Int) } with mem:=d.mem.set c (lr++[⟨vb,toldL k.vw c lr.length true⟩]) }∧Below B w w'∧∀ b',b' < w.heap.size→b'≠gv→b'≠gO→r.val.ownBlock≠some b'→w'.heap[b']? =w.heap[b']? :=by
 obtain ⟨V,hV⟩:∃ V,w.alloc (.cells #[.int .i64 7,.int .i64 r0_,.int .i64 a,.int .i64 b',.int .i64 n] 141)=V:=⟨_,rfl⟩
 have kv:Below w.heap.size w V:=by subst hV;exact (Below.refl _ _).alloc (Nat.le_refl _) _
 have KV:=hidM1 kv
 have zV:=kv.size
 have QV:=hq.keep (w':=V) (fun b _ h1=>kv.block b h1) zV
 have RV:=h.below kv
 have WR:=hidM1 (write_yes c lr r vb true RV QV hx hvl hmem hc hlr hr hroom)
 obtain ⟨r0,r1,r2,r3,r4,m0,m1,m2,m3,fm,ec,c0,k0,k1,k3,fk,wc,zR,zm,zk,zc,zr⟩:=h
 have bb0:(0:Int)≤(b':Int):=by omega
 have bb1:(b':Int) < 8:=by omega
 have HV:=hidM1 hV
 clear hq hx hvl hmem hlr hr QV RV kv hV
 go_enter Tryz.func162,Tryz.ntmps162
 go_wp2_with fail
 rw [HV.out]
 refine Calls.mono WR.out ?_
 rintro e w5 ⟨rfl,r',q5,b5,f5⟩
 have Q5:=hidM1 q5
 have B5:=hidM1 b5
 have F5:=hidM1 f5
 clear q5 b5 f5
 go_wp2
 go_ret
 exact ⟨rfl,r',Q5.out,(KV.out.mono hB).trans B5.out,fun b' h1 h2 h3 h4=>(F5.out b' (by omega) h2 h3 h4).trans (KV.out.block b' h1)⟩
set_option maxHeartbeats 1000000 in
theorem touch7n {Hq : Nat → Prop} {w : World} {B R bm gk gc gs gr gv who nn cv cr cs gO cO : Nat} {late : Int} {vc vk vt : Value} {nc cc : Nat} {pc st : Int} {LC : List CV} {LK : List KV} {S : List RS} {d : MD} {k : KD} (c b' : Nat) (r0_ a n vb : Int) (lr : List WD) (r : RS) (h : Rn w R bm gk gc gs gr gv who nn cv cr cs late vc vk (.slice (some ⟨gO, 0, none⟩) d.mem.length cO) vt nc cc pc st) (hq : MQ w B Hq vc vk (.slice (some ⟨gO, 0, none⟩) d.mem.length cO) vt LC LK S d) (hx : LK[who]? = some ⟨k, .slice (some ⟨gr, 0, none⟩) 8 cr, .slice (some ⟨gv, 0, none⟩) 24 cv⟩) (hvl : k.vw.length = 24) (hmem : memB d.mem = true) (hc : c < 24) (hb : b' < 8) (lb : w.cell? ⟨gr, b', none⟩ = some (.int .i64 vb)) (hlr : d.mem[c]? = some lr) (hr : S[c]? = some r) (hroom : ¬ lr.length < 4000) (hB : B ≤ w.heap.size) :
  Calls Tryz.prog 162 #[.pointer (some ⟨R,0,none⟩),.agg #[.int .i64 7,.int .i64 r0_,.int .i64 a,.int .i64 b',.int .i64 n],.int .i64 c] w fun e w'=>e=.returned (.bool false)∧Below w.heap.size w w':=by
 obtain ⟨V,hV⟩:∃ V,w.alloc (.cells #[.int .i64 7,.int .i64 r0_,.int .i64 a,.int .i64 b',.int .i64 n] 141)=V:=⟨_,rfl⟩
 have kv:Below w.heap.size w V:=by subst hV;exact (Below.refl _ _).alloc (Nat.le_refl _) _
 have KV:=hidM1 kv
 have zV:=kv.size
 have QV:=hq.keep (w':=V) (fun b _ h1=>kv.block b h1) zV
 have RV:=h.below kv
 have h24:=(memB_at hmem (i:=0) (by omega)).1
 have lO:=QV.m.cellc rfl hr hlr
 have WR:=hidM1 (write_no (c:=c) vb true RV lO (World.ownsRow.lt QV.m.row gO rfl).2 (by omega) hroom)
 clear lO h24
 obtain ⟨r0,r1,r2,r3,r4,m0,m1,m2,m3,fm,ec,c0,k0,k1,k3,fk,wc,zR,zm,zk,zc,zr⟩:=h
 have bb0:(0:Int)≤(b':Int):=by omega
 have bb1:(b':Int) < 8:=by omega
 have HV:=hidM1 hV
 clear hq hx hvl hmem hlr hr QV RV kv hV
 go_enter Tryz.func162,Tryz.ntmps162
 go_wp2_with fail
 rw [HV.out]
 refine Calls.mono WR.out ?_
 rintro e w5 ⟨rfl,b5⟩
 have B5:=hidM1 b5
 clear b5
 go_wp2
 go_ret
 exact ⟨rfl,KV.out.trans (B5.out.mono zV)⟩
end
section
set_option linter.unusedSimpArgs false
set_option linter.unusedVariables false
set_option maxRecDepth 100000
open Go.RowKit
set_option maxHeartbeats 2000000 in
theorem swapY {Hq : Nat → Prop} {w : World} {B R bm gk gc gs gr gv who nn cv cr cs gO cO : Nat} {late : Int} {vc vk vt : Value} {nc cc : Nat} {pc st : Int} {LC : List CV} {LK : List KV} {S : List RS} {d : MD} {k : KD} (c r' b' : Nat) (o a vb : Int) (lr : List WD) (r : RS) (h : Rn w R bm gk gc gs gr gv who nn cv cr cs late vc vk (.slice (some ⟨gO, 0, none⟩) d.mem.length cO) vt nc cc pc st) (hq : MQ w B Hq vc vk (.slice (some ⟨gO, 0, none⟩) d.mem.length cO) vt LC LK S d) (hx : LK[who]? = some ⟨k, .slice (some ⟨gr, 0, none⟩) 8 cr, .slice (some ⟨gv, 0, none⟩) 24 cv⟩) (h8 : k.regs.length = 8) (hvw : viewB d.mem k.vw = true) (hmem : memB d.mem = true) (hc : c < 24) (hr' : r' < 8) (hb' : b' < 8) (lb : w.cell? ⟨gr, b', none⟩ = some (.int .i64 vb)) (hlr : d.mem[c]? = some lr) (hr : S[c]? = some r) (hroom : lr.length < 4000) (hB : B ≤ w.heap.size) (nR : R ≠ gv) (nM : bm ≠ gv) (nR2 : R ≠ gr) (nM2 : bm ≠ gr) (nK : gk ≠ gv) (nC : gc ≠ gv) (nK2 : gk ≠ gr) (nC2 : gc ≠ gr) :
  Calls Tryz.prog 167 #[.pointer (some ⟨R,0,none⟩),.agg #[.int .i64 o,.int .i64 r',.int .i64 a,.int .i64 b',.int .i64 c]] w fun e w'=>e=.returned (.bool true)∧∃ LK' rs',MQ w' B Hq vc vk (.slice (some ⟨gO,0,none⟩) d.mem.length cO) vt LC LK' (S.set c rs') { putK d who ⟨k.pc,k.regs.set r' (ldX d.mem k.vw c 0).v,(ldW d.mem k.vw c 0 true).set c (lr.length:Int),k.st⟩ with mem:=d.mem.set c (lr++[⟨vb,toldL (ldW d.mem k.vw c 0 true) c lr.length true⟩]) }∧LK'[who]? =some ⟨⟨k.pc,k.regs.set r' (ldX d.mem k.vw c 0).v,(ldW d.mem k.vw c 0 true).set c (lr.length:Int),k.st⟩,.slice (some ⟨gr,0,none⟩) 8 cr,.slice (some ⟨gv,0,none⟩) 24 cv⟩∧LK'.length=LK.length∧Below B w w'∧∀ b',b' < w.heap.size→b'≠gv→b'≠gr→b'≠gO→r.val.ownBlock≠some b'→w'.heap[b']? =w.heap[b']? :=by
 have H:=hidM1 h
 have HQ:=hidM1 hq
 have HX:=hidM1 hx
 have H8:=hidM1 h8
 have HLR:=hidM1 hlr
 have HRR:=hidM1 hr
 have bgv:B≤gv:=(World.ownsRow.lt (hq.k.inn who _ hx).2 gv rfl).1
 have bgr:B≤gr:=(World.ownsRow.lt (hq.k.inn who _ hx).1 gr rfl).1
 have zgv:gv < w.heap.size:=(World.ownsRow.lt (hq.k.inn who _ hx).2 gv rfl).2
 have hgrv:gr≠gv:=fun e=>hq.k.two who _ gr hx rfl (by rw [e];rfl)
 obtain ⟨r0,r1,r2,r3,r4,m0,m1,m2,m3,fm,ec,c0,k0,k1,k3,fk,wc,zR,zm,zk,zc,zr⟩:=h
 have br0:(0:Int)≤(r':Int):=by omega
 have br1:(r':Int) < 8:=by omega
 have bb0:(0:Int)≤(b':Int):=by omega
 have bb1:(b':Int) < 8:=by omega
 have HW:=hidM1 hvw
 have HME:=hidM1 hmem
 clear hq hx h8 hvw hmem hlr hr
 go_enter Tryz.func167,Tryz.ntmps167
 go_wp2_with fail
 obtain ⟨V,hV⟩:∃ V,w.alloc (.cells #[.int .i64 o,.int .i64 r',.int .i64 a,.int .i64 b',.int .i64 c] 141)=V:=⟨_,rfl⟩
 have kv:Below w.heap.size w V:=by subst hV;exact (Below.refl _ _).alloc (Nat.le_refl _) _
 have zv:w.heap.size < V.heap.size:=by subst hV;simp
 have t1:V.cell? ⟨w.heap.size,1,none⟩=some (.int .i64 r'):=by subst hV;simp [go_sem]
 have t3:V.cell? ⟨w.heap.size,3,none⟩=some (.int .i64 b'):=by subst hV;simp [go_sem]
 have t4:V.cell? ⟨w.heap.size,4,none⟩=some (.int .i64 c):=by subst hV;simp [go_sem]
 rw [hV]
 clear hV
 have hne:=ext_ne V
 have u0:=Ext.fit ((kv.cell (p:=⟨R,1,none⟩) zR).trans r1) (by omega)
 have u1:=Ext.fit ((kv.cell (p:=⟨gk,who * 4+1,none⟩) zk).trans k1) (by omega)
 have u3:=Ext.fit t3 zv
 have ub:=Ext.fit ((kv.cell (p:=⟨gr,b',none⟩) zr).trans lb) (by omega)
 refine regionExt V (by kernel_rfl) (by kernel_rfl) ?_
 repeat (go_big_quiet_step (fail))
 refine wpQuiet_nil ?_
 rintro w3 ⟨X3,rfl⟩
 obtain ⟨U,hU⟩:∃ U,X3.w=U:=⟨_,rfl⟩
 have hb3:=X3.b
 rw [hU] at hb3 ⊢
 clear hU X3 hne u0 u1 u3 ub
 have ku:Below w.heap.size w U:=kv.trans (hb3.mono (by omega))
 have zu:w.heap.size < U.heap.size:=by have:=hb3.size;omega
 have t1u:=(hb3.cell (p:=⟨w.heap.size,1,none⟩) zv).trans t1
 have t4u:=(hb3.cell (p:=⟨w.heap.size,4,none⟩) zv).trans t4
 have KU:=hidM1 ku
 have QU:=hidM1 (HQ.out.keep (w':=U.drew) (fun b _ h1=>ku.block b h1) ku.size)
 have LD:=hidM1 (loadQ c 0 true QU.out HX.out HW.out HME.out hc (by omega))
 go_wp2_with fail
 have hne:=extP_ne U (fun b=>b=gv)
 have u1:=ExtP.fit (E:=fun b=>b=gv) t1u zu (by omega)
 have u4:=ExtP.fit (E:=fun b=>b=gv) t4u zu (by omega)
 have u2:=ExtP.fit (E:=fun b=>b=gv) ((ku.cell (p:=⟨R,0,none⟩) zR).trans r0) (by omega) nR
 have u3:=ExtP.fit (E:=fun b=>b=gv) ((ku.cell (p:=⟨R,2,none⟩) zR).trans r2) (by omega) nR
 have u6:=ExtP.fit (E:=fun b=>b=gv) ((ku.cell (p:=⟨R,1,none⟩) zR).trans r1) (by omega) nR
 have u5:=ExtP.fit (E:=fun b=>b=gv) ((ku.cell (p:=⟨bm,4,none⟩) zm).trans m2) (by omega) nM
 have u7:=ExtP.fit (E:=fun b=>b=gv) ((ku.cell (p:=⟨gk,who * 4+1,none⟩) zk).trans k1) (by omega) nK
 refine regionMix U (CP U (fun b=>b=gv)) 22 23 (by kernel_rfl) (by kernel_rfl) (fun _ _ d _ _ h=>by cases d<;>exact h) (CP.drew _ _) ?_
 unfold CP
 dsimp only [List.take,List.drop]
 repeat (go_big_quiet_step (fail))
 refine wpQuiet_nil ?_
 clear hne u1 u2 u3 u4 u5 u6 u7
 unfold wpListC
 go_wp2_with (go_at_call 168;refine Calls.mono LD.out ?_;rintro e w5 ⟨rfl,q5,x5⟩)
 refine And.intro (fun _ hc=>CP.on hc x5.os x5.tape x5.out x5.size (fun b h1 h2=>x5.blk b h1 (by omega))) ?_
 refine listC_late _ _ _ _ (by decide) ?_
 have hrn:=(q5.k.inn who _ (set_at HX.out)).1
 have hrn':OwnN w5 B (.slice (some ⟨gr,0,none⟩) k.regs.length cr) k.regs:=by rw [H8.out];exact hrn
 have lr':=hrn'.cell (i:=r') (by rw [H8.out];omega)
 have fr:∀ j,w5.frozen? ⟨gr,j,none⟩=false:=fun j=>World.ownsRow.frozenAt hrn' j
 have zr5:gr < w5.heap.size:=(World.ownsRow.lt hrn gr rfl).2
 have q6:=q5.reg (set_at HX.out) H8.out r' (ldX d.mem k.vw c 0).v
 rw [putK_putK] at q6
 obtain ⟨xv,hxv⟩:∃ xv,(ldX d.mem k.vw c 0).v=xv:=⟨_,rfl⟩
 rw [hxv] at q6
 obtain ⟨Y,hY⟩:∃ Y,w5.setCell ⟨gr,r',none⟩ (.int .i64 xv)=Y:=⟨_,rfl⟩
 have x5s:=x5.size
 have zdu:U.drew.heap.size=U.heap.size:=rfl
 have szY:Y.heap.size=w5.heap.size:=by rw [← hY];simp
 have yb:∀ b,b < w.heap.size→b≠gv→b≠gr→Y.heap[b]? =w.heap[b]? :=fun b h1 h2 h3=>by rw [← hY];exact (Below.heap_setCell _ ⟨gr,_,none⟩ _ b h3).trans ((x5.blk b (by omega) (by omega)).trans (ku.block b h1))
 have yB:Below B w Y:=by
  rw [← hY]
  have kd:Below B w w5:=⟨x5.os.trans ku.os,x5.tape.trans ku.tape,x5.out.trans ku.output,by omega,fun b hb=>(x5.blk b (by omega) (by omega)).trans (ku.block b (by omega))⟩
  exact kd.setCell (p:=⟨gr,r',none⟩) bgr _
 have RY:Rn Y R bm gk gc gs gr gv who nn cv cr cs late vc vk (.slice (some ⟨gO,0,none⟩) d.mem.length cO) vt nc cc pc st:=by
  have cR:∀ j,Y.cell? ⟨R,j,none⟩=w.cell? ⟨R,j,none⟩:=fun j=>World.cell?_of_block (yb R zR nR nR2)
  have cM:∀ j,Y.cell? ⟨bm,j,none⟩=w.cell? ⟨bm,j,none⟩:=fun j=>World.cell?_of_block (yb bm zm nM nM2)
  have cK:∀ j,Y.cell? ⟨gk,j,none⟩=w.cell? ⟨gk,j,none⟩:=fun j=>World.cell?_of_block (yb gk zk nK nK2)
  exact ⟨(cR _).trans r0,(cR _).trans r1,(cR _).trans r2,(cR _).trans r3,(cR _).trans r4,(cM _).trans m0,(cM _).trans m1,(cM _).trans m2,(cM _).trans m3,fun j=>(World.frozen?_of_block (yb bm zm nM nM2)).trans (fm j),ec,(World.cell?_of_block (yb gc zc nC nC2)).trans c0,(cK _).trans k0,(cK _).trans k1,(cK _).trans k3,fun j=>(World.frozen?_of_block (yb gk zk nK nK2)).trans (fk j),wc,by omega,by omega,by omega,by omega,by omega⟩
 have t4y:Y.cell? ⟨w.heap.size,4,none⟩=some (.int .i64 c):=by
  rw [← hY]
  exact (setC_blk (by omega)).trans ((World.cell?_of_block (w:=U) (x5.blk w.heap.size (by omega) (by omega))).trans t4u)
 have t4w:w5.cell? ⟨w.heap.size,4,none⟩=some (.int .i64 c):=(World.cell?_of_block (w:=U) (x5.blk w.heap.size (by omega) (by omega))).trans t4u
 have zw5:w.heap.size < w5.heap.size:=by omega
 rw [hxv]
 have zy:w.heap.size < Y.heap.size:=by omega
 have HY:=hidM1 hY
 rw [hY] at q6
 have hvlW:(ldW d.mem k.vw c 0 true).length=24:=by
  have q:=(viewB_iff.1 (ldW_ok 0 true HME.out HW.out hc)).1
  have:=(memB_at HME.out hc).1
  omega
 have WR:=hidM1 (write_yes (d:=putK d who ⟨k.pc,k.regs.set r' xv,ldW d.mem k.vw c 0 true,k.st⟩) c lr r vb true RY q6 (set_at (set_at HX.out)) hvlW HME.out hc HLR.out HRR.out hroom)
 have Q6:=hidM1 q6
 have YB:=hidM1 yb
 have YL:=hidM1 yB
 clear q5 q6 x5 hrn hrn' RY yb yB hY kv ku hb3 t1 t3 t4 t1u t4u r0 r1 r2 r3 r4 m0 m1 m2 m3 fm c0 k0 k1 k3 fk szY x5s zdu
 go_wp2_with fail
 rw [HY.out]
 refine Calls.mono WR.out ?_
 rintro e w7 ⟨rfl,r7,q7,b7,f7⟩
 have Q7:=hidM1 q7
 have B7:=hidM1 b7
 have F7:=hidM1 f7
 clear q7 b7 f7
 go_wp2
 go_ret
 subst hxv
 have q8:=Q7.out
 rw [putK_putK] at q8
 refine ⟨rfl,_,r7,q8,set_at (set_at (set_at HX.out)),?_,YL.out.trans B7.out,fun b' h1 h2 h3 h4 h5=>(F7.out b' (by omega) h2 h4 h5).trans (YB.out b' h1 h2 h3)⟩
 simp
set_option maxHeartbeats 2000000 in
theorem swapN {Hq : Nat → Prop} {w : World} {B R bm gk gc gs gr gv who nn cv cr cs gO cO : Nat} {late : Int} {vc vk vt : Value} {nc cc : Nat} {pc st : Int} {LC : List CV} {LK : List KV} {S : List RS} {d : MD} {k : KD} (c r' b' : Nat) (o a vb : Int) (lr : List WD) (r : RS) (h : Rn w R bm gk gc gs gr gv who nn cv cr cs late vc vk (.slice (some ⟨gO, 0, none⟩) d.mem.length cO) vt nc cc pc st) (hq : MQ w B Hq vc vk (.slice (some ⟨gO, 0, none⟩) d.mem.length cO) vt LC LK S d) (hx : LK[who]? = some ⟨k, .slice (some ⟨gr, 0, none⟩) 8 cr, .slice (some ⟨gv, 0, none⟩) 24 cv⟩) (h8 : k.regs.length = 8) (hvw : viewB d.mem k.vw = true) (hmem : memB d.mem = true) (hc : c < 24) (hr' : r' < 8) (hb' : b' < 8) (lb : w.cell? ⟨gr, b', none⟩ = some (.int .i64 vb)) (hlr : d.mem[c]? = some lr) (hr : S[c]? = some r) (hroom : ¬ lr.length < 4000) (hB : B ≤ w.heap.size) (nR : R ≠ gv) (nM : bm ≠ gv) (nR2 : R ≠ gr) (nM2 : bm ≠ gr) (nK : gk ≠ gv) (nC : gc ≠ gv) (nK2 : gk ≠ gr) (nC2 : gc ≠ gr) :
  Calls Tryz.prog 167 #[.pointer (some ⟨R,0,none⟩),.agg #[.int .i64 o,.int .i64 r',.int .i64 a,.int .i64 b',.int .i64 c]] w fun e w'=>e=.returned (.bool false)∧∃ LK',MQ w' B Hq vc vk (.slice (some ⟨gO,0,none⟩) d.mem.length cO) vt LC LK' S (putK d who ⟨k.pc,k.regs.set r' (ldX d.mem k.vw c 0).v,ldW d.mem k.vw c 0 true,k.st⟩)∧LK'[who]? =some ⟨⟨k.pc,k.regs.set r' (ldX d.mem k.vw c 0).v,ldW d.mem k.vw c 0 true,k.st⟩,.slice (some ⟨gr,0,none⟩) 8 cr,.slice (some ⟨gv,0,none⟩) 24 cv⟩∧(LK'.length=LK.length∧∀ j,j≠who→LK'[j]? =LK[j]?)∧Below B w w'∧∀ b',b' < w.heap.size→b'≠gv→b'≠gr→w'.heap[b']? =w.heap[b']? :=by
 have H:=hidM1 h
 have HQ:=hidM1 hq
 have HX:=hidM1 hx
 have H8:=hidM1 h8
 have HLR:=hidM1 hlr
 have HRR:=hidM1 hr
 have bgv:B≤gv:=(World.ownsRow.lt (hq.k.inn who _ hx).2 gv rfl).1
 have bgr:B≤gr:=(World.ownsRow.lt (hq.k.inn who _ hx).1 gr rfl).1
 have zgv:gv < w.heap.size:=(World.ownsRow.lt (hq.k.inn who _ hx).2 gv rfl).2
 have hgrv:gr≠gv:=fun e=>hq.k.two who _ gr hx rfl (by rw [e];rfl)
 obtain ⟨r0,r1,r2,r3,r4,m0,m1,m2,m3,fm,ec,c0,k0,k1,k3,fk,wc,zR,zm,zk,zc,zr⟩:=h
 have br0:(0:Int)≤(r':Int):=by omega
 have br1:(r':Int) < 8:=by omega
 have bb0:(0:Int)≤(b':Int):=by omega
 have bb1:(b':Int) < 8:=by omega
 have HW:=hidM1 hvw
 have HME:=hidM1 hmem
 clear hq hx h8 hvw hmem hlr hr
 go_enter Tryz.func167,Tryz.ntmps167
 go_wp2_with fail
 obtain ⟨V,hV⟩:∃ V,w.alloc (.cells #[.int .i64 o,.int .i64 r',.int .i64 a,.int .i64 b',.int .i64 c] 141)=V:=⟨_,rfl⟩
 have kv:Below w.heap.size w V:=by subst hV;exact (Below.refl _ _).alloc (Nat.le_refl _) _
 have zv:w.heap.size < V.heap.size:=by subst hV;simp
 have t1:V.cell? ⟨w.heap.size,1,none⟩=some (.int .i64 r'):=by subst hV;simp [go_sem]
 have t3:V.cell? ⟨w.heap.size,3,none⟩=some (.int .i64 b'):=by subst hV;simp [go_sem]
 have t4:V.cell? ⟨w.heap.size,4,none⟩=some (.int .i64 c):=by subst hV;simp [go_sem]
 rw [hV]
 clear hV
 have hne:=ext_ne V
 have u0:=Ext.fit ((kv.cell (p:=⟨R,1,none⟩) zR).trans r1) (by omega)
 have u1:=Ext.fit ((kv.cell (p:=⟨gk,who * 4+1,none⟩) zk).trans k1) (by omega)
 have u3:=Ext.fit t3 zv
 have ub:=Ext.fit ((kv.cell (p:=⟨gr,b',none⟩) zr).trans lb) (by omega)
 refine regionExt V (by kernel_rfl) (by kernel_rfl) ?_
 repeat (go_big_quiet_step (fail))
 refine wpQuiet_nil ?_
 rintro w3 ⟨X3,rfl⟩
 obtain ⟨U,hU⟩:∃ U,X3.w=U:=⟨_,rfl⟩
 have hb3:=X3.b
 rw [hU] at hb3 ⊢
 clear hU X3 hne u0 u1 u3 ub
 have ku:Below w.heap.size w U:=kv.trans (hb3.mono (by omega))
 have zu:w.heap.size < U.heap.size:=by have:=hb3.size;omega
 have t1u:=(hb3.cell (p:=⟨w.heap.size,1,none⟩) zv).trans t1
 have t4u:=(hb3.cell (p:=⟨w.heap.size,4,none⟩) zv).trans t4
 have KU:=hidM1 ku
 have QU:=hidM1 (HQ.out.keep (w':=U.drew) (fun b _ h1=>ku.block b h1) ku.size)
 have LD:=hidM1 (loadQ c 0 true QU.out HX.out HW.out HME.out hc (by omega))
 go_wp2_with fail
 have hne:=extP_ne U (fun b=>b=gv)
 have u1:=ExtP.fit (E:=fun b=>b=gv) t1u zu (by omega)
 have u4:=ExtP.fit (E:=fun b=>b=gv) t4u zu (by omega)
 have u2:=ExtP.fit (E:=fun b=>b=gv) ((ku.cell (p:=⟨R,0,none⟩) zR).trans r0) (by omega) nR
 have u3:=ExtP.fit (E:=fun b=>b=gv) ((ku.cell (p:=⟨R,2,none⟩) zR).trans r2) (by omega) nR
 have u6:=ExtP.fit (E:=fun b=>b=gv) ((ku.cell (p:=⟨R,1,none⟩) zR).trans r1) (by omega) nR
 have u5:=ExtP.fit (E:=fun b=>b=gv) ((ku.cell (p:=⟨bm,4,none⟩) zm).trans m2) (by omega) nM
 have u7:=ExtP.fit (E:=fun b=>b=gv) ((ku.cell (p:=⟨gk,who * 4+1,none⟩) zk).trans k1) (by omega) nK
 refine regionMix U (CP U (fun b=>b=gv)) 22 23 (by kernel_rfl) (by kernel_rfl) (fun _ _ d _ _ h=>by cases d<;>exact h) (CP.drew _ _) ?_
 unfold CP
 dsimp only [List.take,List.drop]
 repeat (go_big_quiet_step (fail))
 refine wpQuiet_nil ?_
 clear hne u1 u2 u3 u4 u5 u6 u7
 unfold wpListC
 go_wp2_with (go_at_call 168;refine Calls.mono LD.out ?_;rintro e w5 ⟨rfl,q5,x5⟩)
 refine And.intro (fun _ hc=>CP.on hc x5.os x5.tape x5.out x5.size (fun b h1 h2=>x5.blk b h1 (by omega))) ?_
 refine listC_late _ _ _ _ (by decide) ?_
 have hrn:=(q5.k.inn who _ (set_at HX.out)).1
 have hrn':OwnN w5 B (.slice (some ⟨gr,0,none⟩) k.regs.length cr) k.regs:=by rw [H8.out];exact hrn
 have lr':=hrn'.cell (i:=r') (by rw [H8.out];omega)
 have fr:∀ j,w5.frozen? ⟨gr,j,none⟩=false:=fun j=>World.ownsRow.frozenAt hrn' j
 have zr5:gr < w5.heap.size:=(World.ownsRow.lt hrn gr rfl).2
 have q6:=q5.reg (set_at HX.out) H8.out r' (ldX d.mem k.vw c 0).v
 rw [putK_putK] at q6
 obtain ⟨xv,hxv⟩:∃ xv,(ldX d.mem k.vw c 0).v=xv:=⟨_,rfl⟩
 rw [hxv] at q6
 obtain ⟨Y,hY⟩:∃ Y,w5.setCell ⟨gr,r',none⟩ (.int .i64 xv)=Y:=⟨_,rfl⟩
 have x5s:=x5.size
 have zdu:U.drew.heap.size=U.heap.size:=rfl
 have szY:Y.heap.size=w5.heap.size:=by rw [← hY];simp
 have yb:∀ b,b < w.heap.size→b≠gv→b≠gr→Y.heap[b]? =w.heap[b]? :=fun b h1 h2 h3=>by rw [← hY];exact (Below.heap_setCell _ ⟨gr,_,none⟩ _ b h3).trans ((x5.blk b (by omega) (by omega)).trans (ku.block b h1))
 have yB:Below B w Y:=by
  rw [← hY]
  have kd:Below B w w5:=⟨x5.os.trans ku.os,x5.tape.trans ku.tape,x5.out.trans ku.output,by omega,fun b hb=>(x5.blk b (by omega) (by omega)).trans (ku.block b (by omega))⟩
  exact kd.setCell (p:=⟨gr,r',none⟩) bgr _
 have RY:Rn Y R bm gk gc gs gr gv who nn cv cr cs late vc vk (.slice (some ⟨gO,0,none⟩) d.mem.length cO) vt nc cc pc st:=by
  have cR:∀ j,Y.cell? ⟨R,j,none⟩=w.cell? ⟨R,j,none⟩:=fun j=>World.cell?_of_block (yb R zR nR nR2)
  have cM:∀ j,Y.cell? ⟨bm,j,none⟩=w.cell? ⟨bm,j,none⟩:=fun j=>World.cell?_of_block (yb bm zm nM nM2)
  have cK:∀ j,Y.cell? ⟨gk,j,none⟩=w.cell? ⟨gk,j,none⟩:=fun j=>World.cell?_of_block (yb gk zk nK nK2)
  exact ⟨(cR _).trans r0,(cR _).trans r1,(cR _).trans r2,(cR _).trans r3,(cR _).trans r4,(cM _).trans m0,(cM _).trans m1,(cM _).trans m2,(cM _).trans m3,fun j=>(World.frozen?_of_block (yb bm zm nM nM2)).trans (fm j),ec,(World.cell?_of_block (yb gc zc nC nC2)).trans c0,(cK _).trans k0,(cK _).trans k1,(cK _).trans k3,fun j=>(World.frozen?_of_block (yb gk zk nK nK2)).trans (fk j),wc,by omega,by omega,by omega,by omega,by omega⟩
 have t4y:Y.cell? ⟨w.heap.size,4,none⟩=some (.int .i64 c):=by
  rw [← hY]
  exact (setC_blk (by omega)).trans ((World.cell?_of_block (w:=U) (x5.blk w.heap.size (by omega) (by omega))).trans t4u)
 have t4w:w5.cell? ⟨w.heap.size,4,none⟩=some (.int .i64 c):=(World.cell?_of_block (w:=U) (x5.blk w.heap.size (by omega) (by omega))).trans t4u
 have zw5:w.heap.size < w5.heap.size:=by omega
 rw [hxv]
 have zy:w.heap.size < Y.heap.size:=by omega
 have HY:=hidM1 hY
 rw [hY] at q6
 have hvlW:(ldW d.mem k.vw c 0 true).length=24:=by
  have q:=(viewB_iff.1 (ldW_ok 0 true HME.out HW.out hc)).1
  have:=(memB_at HME.out hc).1
  omega
 have h24:=(memB_at HME.out hc).1
 have WR:=hidM1 (write_no (c:=c) vb true RY (q6.m.cellc rfl HRR.out HLR.out) (World.ownsRow.lt q6.m.row gO rfl).2 (by omega) hroom)
 clear h24
 have Q6:=hidM1 q6
 have YB:=hidM1 yb
 have YL:=hidM1 yB
 clear q5 q6 x5 hrn hrn' RY yb yB hY kv ku hb3 t1 t3 t4 t1u t4u r0 r1 r2 r3 r4 m0 m1 m2 m3 fm c0 k0 k1 k3 fk szY x5s zdu
 go_wp2_with fail
 rw [HY.out]
 refine Calls.mono WR.out ?_
 rintro e w7 ⟨rfl,b7⟩
 have B7:=hidM1 b7
 clear b7
 go_wp2
 go_ret
 subst hxv
 have hBY:B≤gv:=bgv
 refine ⟨rfl,_,Q6.out.keep (fun b _ h1=>B7.out.block b h1) B7.out.size,set_at (set_at HX.out),?_,YL.out.trans (B7.out.mono (by omega)),fun b' h1 h2 h3=>(B7.out.block b' (by omega)).trans (YB.out b' h1 h2 h3)⟩
 exact ⟨by simp,fun j hj=>by rw [List.getElem?_set_ne (Ne.symm hj),List.getElem?_set_ne (Ne.symm hj)]⟩
end
end Go.Proofs.YtlbeploopclegaaGreat
