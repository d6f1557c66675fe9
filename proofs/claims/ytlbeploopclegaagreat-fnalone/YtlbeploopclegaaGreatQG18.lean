/- A turn of the program's runner, whichever. Condition: late is a number of 64 bits. stepIn of the program. Condition: late is a number of 64 bits. MachineOk of the program. Conditions: the machine is counted. CoreStep of the program. Conditions: the machine is counted, late is a number of 64 bits. Append of one integer onto a row, and which blocks stay. Conditions: fewer than 2^40 of them. -/
import Derived.Test.YtlbeploopclegaaGreatQG04
import Derived.Test.YtlbeploopclegaaGreatQG01
import Derived.Test.YtlbeploopclegaaGreatQG00
import Derived.Test.YtlbeploopclegaaGreatQG06
import Derived.Test.YtlbeploopclegaaGreatQG13
import Derived.Test.YtlbeploopclegaaGreatQG17
import Derived.Test.YtlbeploopclegaaGreatQG10
import Derived.Test.YtlbeploopclegaaGreatQG12
import Derived.Test.YtlbeploopclegaaGreatQKOkB
import Derived.Test.YtlbeploopclegaaGreatQG11
import Derived.Test.YtlbeploopclegaaGreatQG02
import Derived.Test.YtlbeploopclegaaGreatQC7Leaf
import Derived.Test.YtlbeploopclegaaGreatQG03
import Derived.Deep.RegionWith
namespace Go.Proofs.YtlbeploopclegaaGreat
section
set_option linter.unusedSimpArgs false
set_option linter.unusedVariables false
set_option maxRecDepth 100000
open Go.RowKit
theorem MQ.far {Hq:Nat→Prop} {w:World} {B bm:Nat} {vc vk vm vt:Value} {LC:List CV} {LK:List KV} {S:List RS} {d:MD} {who p:Nat} {k:KD} {code:List I5} {s:I5} {gc cc gk ck gs cs gr cr gv cv gO cO:Nat} {st:Option Addr} {ct:Nat} (h:MQ w B Hq vc vk vm vt LC LK S d) (o:Op8 w B vc vk vm vt LK d who p k code s gc cc gk ck gs cs gr cr gv cv gO cO st ct) (zm:bm < w.heap.size):∀ b,w.heap.size≤b→Off8 gk gr gv gO bm S vt b:=fun b hb=>by
 have zk:=o.zk
 have zr:=o.zr
 have zv:=o.zv
 have zO:=o.zO
 refine ⟨by omega,by omega,by omega,by omega,by omega,fun i r hr e=>?_,fun e=>?_⟩
 ·have hl:=(List.getElem?_eq_some_iff.1 hr).1
  have hn:=h.m.n
  obtain ⟨l,hl2⟩:∃ l,d.mem[i]? =some l:=⟨_,List.getElem?_eq_getElem (by omega)⟩
  have:=(World.ownsRow.lt (h.m.r i r l hr hl2).own _ e).2
  omega
 ·have:=(World.ownsRow.lt h.t _ e).2
  omega
theorem MQ.offH {Hq:Nat→Prop} {w:World} {B bm:Nat} {vc vk vm vt:Value} {LC:List CV} {LK:List KV} {S:List RS} {d:MD} {who p:Nat} {k:KD} {code:List I5} {s:I5} {gc cc gk ck gs cs gr cr gv cv gO cO:Nat} {st:Option Addr} {ct:Nat} (h:MQ w B Hq vc vk vm vt LC LK S d) (o:Op8 w B vc vk vm vt LK d who p k code s gc cc gk ck gs cs gr cr gv cv gO cO st ct) (hm:memB d.mem=true) (b:Nat) (hb:¬ Hq b) (hbm:b≠bm):Off8 gk gr gv gO bm S vt b:=
 ⟨fun e=>hb (e▸h.hh.k gk (by rw [o.ek];rfl)),fun e=>hb (e▸h.hh.ki who _ gr o.hx (.inl rfl)),fun e=>hb (e▸h.hh.ki who _ gv o.hx (.inr rfl)),fun e=>hb (e▸h.hh.m gO (by rw [o.em];rfl)),hbm,fun i r hr e=>hb (h.rowH hr (h.m.some_ hm i r hr) b e),fun e=>hb (h.hh.t b e)⟩
set_option maxHeartbeats 2000000 in
theorem turn_over {Hq : Nat → Prop} {w : World} {B R bm p gc cc gk ck gs cs gr cr gv cv gO cO cT who : Nat} {sT : Option Addr} {vc vk vm vt : Value} {LC : List CV} {LK : List KV} {S : List RS} {d : MD} {k : KD} {code : List I5} {s : I5} {late : Int} (h : MQ w B Hq vc vk vm vt LC LK S d) (ha : At8 d who k code s) (O : Op8 w B vc vk vm vt LK d who p k code s gc cc gk ck gs cs gr cr gv cv gO cO sT cT) (hR : Rn w R bm gk gc gs gr gv who code.length cv cr cs late vc vk vm vt d.codes.length cc p k.st) (bx : BxW w bm) (hB : B ≤ w.heap.size) (hst : ¬ k.st = 0) :
  Calls Tryz.prog 145 #[.pointer (some ⟨R,0,none⟩)] w (TurnQ w B Hq bm vc vk vm LC (d,3)):=by
 obtain ⟨A,hA⟩:∃ A,(w.alloc (.cells #[.pointer (some ⟨R,0,none⟩)] 209)).alloc (.cells #[.int .i64 0] 3)=A:=⟨_,rfl⟩
 have zA:A.heap.size=w.heap.size+1+1:=by subst hA;simp
 have kA:Below w.heap.size w A:=by subst hA;exact ((Below.refl _ _).alloc (Nat.le_refl _) _).alloc (by simp) _
 have mk:bm≠gk:=fun e=>own_bw h.k.row (by decide) bx (by rw [O.ek,e];rfl)
 have hA':=h.keep (w':=A) (fun b _ h1=>kA.block b h1) kA.size
 have h8:=ha.regs
 have hv24:k.vw.length=24:=by
  have q:=(viewB_iff.1 ha.vw).1
  have m:=(memB_at ha.mem (i:=0) (by omega)).1
  omega
 obtain ⟨hr1,hr2⟩:=hA'.k.inn who _ O.hx
 have i1:=ownN_intsR (w:=A) (g:=gr) (c:=cr) (l:=k.regs) (by rw [h8];exact hr1)
 have i2:=ownN_intsR (w:=A) (g:=gv) (c:=cv) (l:=k.vw) (by rw [hv24];exact hr2)
 have SC:=sameCore_any k _ _ cr cv B A.heap.size A i1 i2 (Nat.le_refl _) (by omega) (by omega)
 rw [h8,hv24] at SC
 have HS:=hidM1 SC
 have HA:=hidM1 hA
 have HH:=hidM1 h
 have HAT:=hidM1 ha
 have HO:=hidM1 O
 have HR:=hidM1 hR
 have hmf:∀ (fn:Fn) (first cap:Array Value) (w:World),(Instr.makeFunc fn first cap).run Tryz.prog w=.ok (.func fn first cap) w:=fun _ _ _ _=>rfl
 obtain ⟨pc,regs,vw,st⟩:=k
 obtain ⟨r0,r1,r2,r3,r4,m0,m1,m2,m3,fm,ec,c0,k0,k1,k3,fk,wc,zR,zm,zk,zc,zr⟩:=hR
 have k2:=O.k2
 have ek0:=O.k0
 simp only at hst k3 HS ek0
 have z1:R < w.heap.size+1:=by omega
 have z2:R < w.heap.size+1+1:=by omega
 have z3:gk < w.heap.size+1:=by omega
 have z4:gk < w.heap.size+1+1:=by omega
 clear h ha O hA hA' hr1 hr2 i1 i2 SC ec k0
 go_enter_defers Tryz.func145,Tryz.ntmps145
 go_wp2_with fail
 rw [HA.out]
 refine Calls.mono HS.out ?_
 rintro e w1 ⟨a1,b1,a2,b2,rfl,o1,o2,o12,hb1,hz1⟩
 have KA:Hid (Below w.heap.size w w1):=kA.trans (hb1.mono (by omega))
 have HB1:=hidM1 hb1
 have O1:=hidM1 o1
 have O2:=hidM1 o2
 have O12:=hidM1 o12
 have rb1:w1.cell? ⟨w.heap.size,0,none⟩=some (.pointer (some ⟨R,0,none⟩)):=(hb1.cell (p:=⟨w.heap.size,0,none⟩) (by show w.heap.size < _;omega)).trans (by rw [← HA.out];simp [go_sem])
 have cb1:w1.cell? ⟨w.heap.size+1,0,none⟩=some (.int .i64 0):=(hb1.cell (p:=⟨w.heap.size+1,0,none⟩) (by show w.heap.size+1 < _;omega)).trans (by rw [← HA.out];simp [go_sem])
 have fc1:w1.frozen? ⟨w.heap.size+1,0,none⟩=false:=(hb1.frozen (p:=⟨w.heap.size+1,0,none⟩) (by show w.heap.size+1 < _;omega)).trans (by rw [← HA.out];simp [go_sem])
 have r11:=(KA.out.cell (p:=⟨R,1,none⟩) zR).trans r1
 have k31:=(KA.out.cell (p:=⟨gk,who * 4+3,none⟩) zk).trans k3
 have y1:w.heap.size < w1.heap.size:=by omega
 have y2:w.heap.size+1 < w1.heap.size:=by omega
 have y3:R < w1.heap.size:=by omega
 have y4:gk < w1.heap.size:=by omega
 clear hb1 o1 o2 o12 kA r0 r1 r2 r3 r4 m0 m1 m2 m3 fm c0 k1 k3 fk k2 ek0 z1 z2 z3 z4
 go_wp2
 obtain ⟨BT,KW⟩:=bt3_new (pc:=pc) (st:=st) (a1:=a1) (n1:=8) (b1:=b1) (a2:=a2) (n2:=24) (b2:=b2) HA.out HB1.out
 have BT3:=BT.put 3
 rw [← World.setCell_alloc_past _ _ _ _ y2]
 obtain ⟨U,hU⟩:∃ U,w1.alloc (.cells #[.int .i64 pc,.slice a1 8 b1,.slice a2 24 b2,.int .i64 st] 53)=U:=⟨_,rfl⟩
 have kU:Below w1.heap.size w1 U:=by subst hU;exact (Below.refl _ _).alloc (Nat.le_refl _) _
 rw [hU] at BT BT3 KW ⊢
 clear hU
 obtain ⟨W,hW⟩:∃ W,U.setCell ⟨w.heap.size+1,0,none⟩ (.int .i64 3)=W:=⟨_,rfl⟩
 have kb:∀ b,b≠w.heap.size+1→W.heap[b]? =U.heap[b]? :=fun b hb=>by subst hW;exact Below.heap_setCell _ _ _ b hb
 have KW2:Below w.heap.size w W:=by subst hW;exact KW.setCell (p:=⟨w.heap.size+1,0,none⟩) (by show w.heap.size≤w.heap.size+1;omega) _
 have sW:U.heap.size=W.heap.size:=by subst hW;simp
 rw [hW] at BT3 ⊢
 have sU:=kU.size
 have q0:=HH.out.keep (w':=W) (fun b _ h1=>KW2.block b h1) KW2.size
 rw [← putK_self HAT.out.hk] at q0
 have keepO:∀ (v:Value) (l:List Int),OwnN w1 A.heap.size v l→OwnN W (w.heap.size+1+1) v l:=fun v l ho=>by
  rw [zA] at ho
  exact ownKeep' ho (fun q hq=>(kb q (by have:=(World.ownsRow.lt ho _ hq).1;omega)).trans (kU.block q (World.ownsRow.lt ho _ hq).2))
 refine leaves_cons (f:=157) (args:=#[.pointer (some ⟨w.heap.size+1,0,none⟩),.pointer (some ⟨w1.heap.size,0,none⟩),.pointer (some ⟨w.heap.size,0,none⟩)]) (by simp) (by simp [go_sem]) ?_
 refine (back_any HH.out HAT.out HO.out q0 rfl (fun _ _=>rfl) BT3 ((KW2.cell (p:=⟨R,1,none⟩) zR).trans HR.out.r1) (by omega) KW2.size (keepO _ _ O1.out) (keepO _ _ O2.out) O12.out hB .returning).mono ?_
 rintro e u' w'' ⟨rfl,rfl,⟨LK2,q2⟩,f2,s2,b2'⟩
 have g:w''.cell? ⟨w.heap.size+1,0,none⟩=some (.int .i64 3):=(World.cell?_of_block (f2 (w.heap.size+1) (by omega) (by omega))).trans BT3.cb
 have hm:w''.heap[bm]? =w.heap[bm]? :=(f2 bm (by omega) mk).trans (KW2.block bm zm)
 have post:TurnQ w B Hq bm vc vk vm LC (d,3) (.returned (.int .i64 3)) w'':=⟨rfl,vt,LK2,S,q2,(World.cell?_of_block hm).trans HR.out.m3,fun j _=>World.cell?_of_block hm,fun j=>(World.frozen?_of_block hm).trans (HR.out.fm j),bx.same hm,b2' w (KW2.mono hB),fun b h1 h2 h3=>(f2 b (by omega) (fun e=>h2 (e▸HH.out.hh.k gk (by first | rfl | (rw [HO.out.ek];rfl))))).trans (KW2.block b h1)⟩
 simp [Leaves,settle,results,Tryz.results145,go_sem,g]
 exact post
set_option maxHeartbeats 2000000 in
theorem turn_do {Hq : Nat → Prop} {w : World} {B R bm p gc cc gk ck gs cs gr cr gv cv gO cO cT who : Nat} {sT : Option Addr} {vc vk vm vt : Value} {LC : List CV} {LK : List KV} {S : List RS} {d : MD} {k : KD} {code : List I5} {s : I5} {late : Int} (h : MQ w B Hq vc vk vm vt LC LK S d) (ha : At8 d who k code s) (O : Op8 w B vc vk vm vt LK d who p k code s gc cc gk ck gs cs gr cr gv cv gO cO sT cT) (hR : Rn w R bm gk gc gs gr gv who code.length cv cr cs late vc vk vm vt d.codes.length cc p k.st) (bx : BxW w bm) (bB : B ≤ bm) (hB : B ≤ w.heap.size) (hst : k.st = 0) (hmach : machB d = true) (hlate : late ≤ 9223372036854775807) (oR : Off8 gk gr gv gO bm S vt R) :
  Calls Tryz.prog 145 #[.pointer (some ⟨R,0,none⟩)] w (TurnQ w B Hq bm vc vk vm LC (stepM d who late)):=by
 have HM9:=stepM_ok (who:Int) late hmach
 have HX:=stepM_at ha late hst
 obtain ⟨X,hX⟩:∃ X,stepM d who late=X:=⟨_,rfl⟩
 rw [hX] at HM9 HX ⊢
 have HM:=hidM1 HM9
 have HXX:=hidM1 HX
 clear HM9 HX hX hmach
 obtain ⟨A,hA⟩:∃ A,(w.alloc (.cells #[.pointer (some ⟨R,0,none⟩)] 209)).alloc (.cells #[.int .i64 0] 3)=A:=⟨_,rfl⟩
 have zA:A.heap.size=w.heap.size+1+1:=by subst hA;simp
 have kA:Below w.heap.size w A:=by subst hA;exact ((Below.refl _ _).alloc (Nat.le_refl _) _).alloc (by simp) _
 have mk:bm≠gk:=fun e=>own_bw h.k.row (by decide) bx (by rw [O.ek,e];rfl)
 have hA':=h.keep (w':=A) (fun b _ h1=>kA.block b h1) kA.size
 have h8:=ha.regs
 have hv24:k.vw.length=24:=by
  have q:=(viewB_iff.1 ha.vw).1
  have m:=(memB_at ha.mem (i:=0) (by omega)).1
  omega
 obtain ⟨hr1,hr2⟩:=hA'.k.inn who _ O.hx
 have i1:=ownN_intsR (w:=A) (g:=gr) (c:=cr) (l:=k.regs) (by rw [h8];exact hr1)
 have i2:=ownN_intsR (w:=A) (g:=gv) (c:=cv) (l:=k.vw) (by rw [hv24];exact hr2)
 have SC:=sameCore_any k _ _ cr cv B A.heap.size A i1 i2 (Nat.le_refl _) (by omega) (by omega)
 rw [h8,hv24] at SC
 have HS:=hidM1 SC
 have HA:=hidM1 hA
 have HH:=hidM1 h
 have HAT:=hidM1 ha
 have HO:=hidM1 O
 have HR:=hidM1 hR
 have hmf:∀ (fn:Fn) (first cap:Array Value) (w:World),(Instr.makeFunc fn first cap).run Tryz.prog w=.ok (.func fn first cap) w:=fun _ _ _ _=>rfl
 obtain ⟨pc,regs,vw,st⟩:=k
 obtain ⟨r0,r1,r2,r3,r4,m0,m1,m2,m3,fm,ec,c0,k0,k1,k3,fk,wc,zR,zm,zk,zc,zr⟩:=hR
 have k2:=O.k2
 have ek0:=O.k0
 simp only at hst k3 HS ek0
 subst hst
 have z1:R < w.heap.size+1:=by omega
 have z2:R < w.heap.size+1+1:=by omega
 have z3:gk < w.heap.size+1:=by omega
 have z4:gk < w.heap.size+1+1:=by omega
 clear h ha O hA hA' hr1 hr2 i1 i2 SC ec k0
 go_enter_defers Tryz.func145,Tryz.ntmps145
 go_wp2_with fail
 rw [HA.out]
 refine Calls.mono HS.out ?_
 rintro e w1 ⟨a1,b1,a2,b2,rfl,o1,o2,o12,hb1,hz1⟩
 have KA:Hid (Below w.heap.size w w1):=kA.trans (hb1.mono (by omega))
 have HB1:=hidM1 hb1
 have O1:=hidM1 o1
 have O2:=hidM1 o2
 have O12:=hidM1 o12
 have rb1:w1.cell? ⟨w.heap.size,0,none⟩=some (.pointer (some ⟨R,0,none⟩)):=(hb1.cell (p:=⟨w.heap.size,0,none⟩) (by show w.heap.size < _;omega)).trans (by rw [← HA.out];simp [go_sem])
 have cb1:w1.cell? ⟨w.heap.size+1,0,none⟩=some (.int .i64 0):=(hb1.cell (p:=⟨w.heap.size+1,0,none⟩) (by show w.heap.size+1 < _;omega)).trans (by rw [← HA.out];simp [go_sem])
 have fc1:w1.frozen? ⟨w.heap.size+1,0,none⟩=false:=(hb1.frozen (p:=⟨w.heap.size+1,0,none⟩) (by show w.heap.size+1 < _;omega)).trans (by rw [← HA.out];simp [go_sem])
 have r11:=(KA.out.cell (p:=⟨R,1,none⟩) zR).trans r1
 have k31:=(KA.out.cell (p:=⟨gk,who * 4+3,none⟩) zk).trans k3
 have y1:w.heap.size < w1.heap.size:=by omega
 have y2:w.heap.size+1 < w1.heap.size:=by omega
 have y3:R < w1.heap.size:=by omega
 have y4:gk < w1.heap.size:=by omega
 clear hb1 o1 o2 o12 kA r0 r1 r2 r3 r4 m0 m1 m2 m3 fm c0 k1 k3 fk k2 ek0 z1 z2 z3 z4
 go_wp2_with fail
 obtain ⟨BT,KW⟩:=bt3_new (pc:=pc) (st:=0) (a1:=a1) (n1:=8) (b1:=b1) (a2:=a2) (n2:=24) (b2:=b2) HA.out HB1.out
 obtain ⟨U,hU⟩:∃ U,w1.alloc (.cells #[.int .i64 pc,.slice a1 8 b1,.slice a2 24 b2,.int .i64 0] 53)=U:=⟨_,rfl⟩
 have kU:Below w1.heap.size w1 U:=by subst hU;exact (Below.refl _ _).alloc (Nat.le_refl _) _
 rw [hU] at BT KW ⊢
 clear hU
 have sU:=kU.size
 have far:=MQ.far HH.out HO.out zm
 have hp:=HO.out.hp
 simp only at hp
 have hpl:=HAT.out.pcl
 simp only at hpl
 have b0:(0:Int)≤(who:Int):=by omega
 have b1:(who:Int) < (d.codes.length:Int):=by omega
 have b3:(0:Int)≤(p:Int):=by omega
 have b4:(p:Int) < (code.length:Int):=by omega
 have hne:=ext_ne U
 have u0:=Ext.fit BT.rb (by omega)
 have u1:=Ext.fit ((KW.cell (p:=⟨R,1,none⟩) zR).trans HR.out.r1) (by omega)
 have u2:=Ext.fit ((KW.cell (p:=⟨R,2,none⟩) zR).trans HR.out.r2) (by omega)
 have u3:=Ext.fit ((KW.cell (p:=⟨R,3,none⟩) zR).trans HR.out.r3) (by omega)
 have m0':=HR.out.m0
 rw [HR.out.ec] at m0'
 have u4:=Ext.fit ((KW.cell (p:=⟨bm,2,none⟩) zm).trans m0') (by omega)
 have u5:=Ext.fit ((KW.cell (p:=⟨gc,who,none⟩) zc).trans HR.out.c0) (by omega)
 have u6:=Ext.fit ((KW.cell (p:=⟨gk,who * 4,none⟩) zk).trans HR.out.k0) (by omega)
 have zs:=HO.out.zs
 have v0:=Ext.fit ((KW.cell (p:=⟨gs,p * 5,none⟩) zs).trans HO.out.s0) (by omega)
 have v1:=Ext.fit ((KW.cell (p:=⟨gs,p * 5+1,none⟩) zs).trans HO.out.s1) (by omega)
 have v2:=Ext.fit ((KW.cell (p:=⟨gs,p * 5+2,none⟩) zs).trans HO.out.s2) (by omega)
 have v3:=Ext.fit ((KW.cell (p:=⟨gs,p * 5+3,none⟩) zs).trans HO.out.s3) (by omega)
 have v4:=Ext.fit ((KW.cell (p:=⟨gs,p * 5+4,none⟩) zs).trans HO.out.s4) (by omega)
 have HBT:=hidM1 BT
 have HKW:=hidM1 KW
 have HFAR:=hidM1 far
 have HKU:=hidM1 kU
 clear BT KW far kU rb1 cb1 fc1 r11 k31 m0' hp
 refine regionSuf U 24 (by kernel_rfl) (by kernel_rfl) (by kernel_rfl) (by kernel_rfl) (by kernel_rfl) ?_
 dsimp only [List.take,List.drop]
 repeat (go_big_quiet_step (fail))
 refine wpQuiet_nil ?_
 rintro w3 ⟨X3,rfl⟩
 obtain ⟨V,hV⟩:∃ V,X3.w=V:=⟨_,rfl⟩
 have hb3:=X3.b
 rw [hV] at hb3 ⊢
 clear hne u0 u1 u2 u3 u4 u5 u6 v0 v1 v2 v3 v4 hV X3
 have sV:=hb3.size
 have lo:=HBT.out.lo
 have hi:=HBT.out.hi
 have BV:=HBT.out.keep (hb3.block _ (by omega)) (hb3.block _ (by omega)) (hb3.block _ hi) sV
 have KV:Below w.heap.size w V:=HKW.out.trans (hb3.mono (by omega))
 have DO:=do_any (HH.out.keep (w':=V) (fun b _ h1=>KV.block b h1) KV.size) HAT.out (HO.out.below KV) (HR.out.below KV) (bx.same (KV.block bm zm)) bB (by omega) hlate oR
 rw [← HXX.out] at DO
 have HDO:=hidM1 DO
 have HKV:=hidM1 KV
 have HBV:=hidM1 BV
 have HB3:=hidM1 hb3
 clear DO KV BV hb3
 go_wp2_with (go_at_call 158;refine Calls.mono HDO.out ?_;rintro e w6 ⟨rfl,vt6,LK6,S6,d6,q6,hx6,c3,cj,fj,bx6,b6,f6⟩;have Q6:=hidM1 q6;have HX6:=hidM1 hx6;have C3:=hidM1 c3;have CJ:=hidM1 cj;have FJ:=hidM1 fj;have BX6:=hidM1 bx6;have B6:=hidM1 b6;have F6:=hidM1 f6;have cb6:w6.cell? ⟨w.heap.size+1,0,none⟩=some (.int .i64 0):=(World.cell?_of_block (F6.out (w.heap.size+1) (by omega) (HFAR.out _ (by omega)))).trans HBV.out.cb;have fc6:w6.frozen? ⟨w.heap.size+1,0,none⟩=false:=(World.frozen?_of_block (F6.out (w.heap.size+1) (by omega) (HFAR.out _ (by omega)))).trans HBV.out.fc;clear q6 hx6 c3 cj fj bx6 b6 f6)
 have sW6:=B6.out.size
 have BT6:=HBV.out.keep (F6.out w.heap.size (by omega) (HFAR.out _ (by omega))) (F6.out (w.heap.size+1) (by omega) (HFAR.out _ (by omega))) (F6.out w1.heap.size (by omega) (HFAR.out _ (by omega))) sW6
 have BTW:=BT6.put X.2
 obtain ⟨W,hW⟩:∃ W,w6.setCell ⟨w.heap.size+1,0,none⟩ (.int .i64 X.2)=W:=⟨_,rfl⟩
 have kb:∀ b,b≠w.heap.size+1→W.heap[b]? =w6.heap[b]? :=fun b hb=>by subst hW;exact Below.heap_setCell _ _ _ b hb
 have sW:W.heap.size=w6.heap.size:=by subst hW;simp
 rw [hW] at BTW ⊢
 have BW:Below B w W:=by subst hW;exact ((HKV.out.mono hB).trans B6.out).setCell (p:=⟨w.heap.size+1,0,none⟩) (by show B≤w.heap.size+1;omega) _
 have R6:W.cell? ⟨R,1,none⟩=some (.pointer (some ⟨gk,who * 4,none⟩)):=(World.cell?_of_block ((kb R (by omega)).trans (F6.out R (by omega) oR))).trans ((HKV.out.cell (p:=⟨R,1,none⟩) zR).trans HR.out.r1)
 have bw:bm≠w.heap.size+1:=by omega
 clear hW
 refine leaves_cons (f:=157) (args:=#[.pointer (some ⟨w.heap.size+1,0,none⟩),.pointer (some ⟨w1.heap.size,0,none⟩),.pointer (some ⟨w.heap.size,0,none⟩)]) (by simp) (by simp [go_sem]) ?_
 rcases HX6.out with ⟨e2,ed⟩ | ⟨e2,e1,eS,eT,l6,j6,k',ed,x6⟩
 ·have cb:W.cell? ⟨w.heap.size+1,0,none⟩=some (.int .i64 0):=by rw [← e2];exact BTW.cb
  refine (back_idle .returning cb).mono ?_
  rintro e u' w'' ⟨rfl,rfl,b2'⟩
  have s2:=b2'.size
  have g:w''.cell? ⟨w.heap.size+1,0,none⟩=some (.int .i64 0):=(b2'.cell (p:=⟨w.heap.size+1,0,none⟩) (by show w.heap.size+1 < _;omega)).trans cb
  have hm6:w''.heap[bm]? =w6.heap[bm]? :=(b2'.block bm (by omega)).trans (kb bm bw)
  have q6:=Q6.out
  rw [ed] at q6
  obtain ⟨h1,h2⟩:=q6.one HM.out BT6.ti BT6.on
  have q7:=(q6.offI (w':=W) BT6.ti h1 h2 kb (by omega)).keep (w':=w'') (fun b _ h1=>b2'.block b h1) s2
  have post:TurnQ w B Hq bm vc vk vm LC X (.returned (.int .i64 0)) w'':=⟨by rw [e2],vt6,LK6,S6,q7,(World.cell?_of_block hm6).trans C3.out,fun j hj=>(World.cell?_of_block hm6).trans ((CJ.out j hj).trans (HKV.out.cell (p:=⟨bm,j,none⟩) zm)),fun j=>(World.frozen?_of_block hm6).trans (FJ.out j),BX6.out.same hm6,BW.trans (b2'.mono (by omega)),fun b h1 h2 h3=>(b2'.block b (by omega)).trans ((kb b (by omega)).trans ((F6.out b (by omega) (MQ.offH HH.out HO.out HAT.out.mem b h2 h3)).trans (HKV.out.block b h1)))⟩
  simp [Leaves,settle,results,Tryz.results145,go_sem,g]
  exact post
 ·rw [e2] at BTW
  subst eS
  subst eT
  have q6:=Q6.out
  rw [ed] at q6
  have q7:=q6.offI (w':=W) BT6.ti (fun i x hx=>?_) (fun a ha' e=>by have:=HH.out.m.blk a ha';omega) kb (by omega)
  ·have keepO:∀ (v:Value) (l:List Int),OwnN w1 A.heap.size v l→OwnN W (w.heap.size+1+1) v l:=fun v l ho=>by
    rw [zA] at ho
    refine ownKeep' ho (fun q hq=>?_)
    have hq1:=(World.ownsRow.lt ho _ hq).1
    have hq2:=(World.ownsRow.lt ho _ hq).2
    exact (kb q (by omega)).trans ((F6.out q (by omega) (HFAR.out q (by omega))).trans ((HB3.out.block q (by omega)).trans (HKU.out.block q hq2)))
   refine (back_any HH.out HAT.out HO.out q7 l6 j6 BTW R6 (by omega) (by omega) (keepO _ _ O1.out) (keepO _ _ O2.out) O12.out hB .returning).mono ?_
   rintro e u' w'' ⟨rfl,rfl,⟨LK2,q2⟩,f2,s2,b2'⟩
   have g:w''.cell? ⟨w.heap.size+1,0,none⟩=some (.int .i64 3):=(World.cell?_of_block (f2 (w.heap.size+1) (by omega) (by omega))).trans BTW.cb
   have hm6:w''.heap[bm]? =w6.heap[bm]? :=(f2 bm (by omega) mk).trans (kb bm bw)
   have post:TurnQ w B Hq bm vc vk vm LC X (.returned (.int .i64 3)) w'':=⟨by rw [e2],_,LK2,_,by rw [e1];exact q2,(World.cell?_of_block hm6).trans C3.out,fun j hj=>(World.cell?_of_block hm6).trans ((CJ.out j hj).trans (HKV.out.cell (p:=⟨bm,j,none⟩) zm)),fun j=>(World.frozen?_of_block hm6).trans (FJ.out j),BX6.out.same hm6,b2' w BW,fun b h1 h2 h3=>(f2 b (by omega) (fun e=>h2 (e▸HH.out.hh.k gk (by first | rfl | (rw [HO.out.ek];rfl))))).trans ((kb b (by omega)).trans ((F6.out b (by omega) (MQ.offH HH.out HO.out HAT.out.mem b h2 h3)).trans (HKV.out.block b h1)))⟩
   simp [Leaves,settle,results,Tryz.results145,go_sem,g]
   exact post
  ·by_cases hi9:i=who
   ·subst hi9
    rw [x6] at hx
    injection hx with hx
    subst hx
    have zv:=HO.out.zv
    refine ⟨fun e=>?_,fun e=>?_⟩
    ·simp only [Value.ownBlock,Option.some.injEq] at e;omega
    ·simp only [Value.ownBlock,Option.some.injEq] at e;omega
   ·rw [j6 i hi9] at hx
    refine ⟨fun e=>?_,fun e=>?_⟩
    ·have:=(World.ownsRow.lt (HH.out.k.inn i x hx).1 _ e).2;omega
    ·have:=(World.ownsRow.lt (HH.out.k.inn i x hx).2 _ e).2;omega
theorem turn_any {Hq : Nat → Prop} {w : World} {B R bm p gc cc gk ck gs cs gr cr gv cv gO cO cT who : Nat} {sT : Option Addr} {vc vk vm vt : Value} {LC : List CV} {LK : List KV} {S : List RS} {d : MD} {k : KD} {code : List I5} {s : I5} {late : Int} (h : MQ w B Hq vc vk vm vt LC LK S d) (ha : At8 d who k code s) (O : Op8 w B vc vk vm vt LK d who p k code s gc cc gk ck gs cs gr cr gv cv gO cO sT cT) (hR : Rn w R bm gk gc gs gr gv who code.length cv cr cs late vc vk vm vt d.codes.length cc p k.st) (bx : BxW w bm) (bB : B ≤ bm) (hB : B ≤ w.heap.size) (hmach : machB d = true) (hlate : late ≤ 9223372036854775807) (oR : Off8 gk gr gv gO bm S vt R) :
  Calls Tryz.prog 145 #[.pointer (some ⟨R,0,none⟩)] w (TurnQ w B Hq bm vc vk vm LC (stepM d who late)):=by
 by_cases hst:k.st=0
 ·exact turn_do h ha O hR bx bB hB hst hmach hlate oR
 ·rw [stepM_over ha late hst]
  exact turn_over h ha O hR bx hB hst
end
section
set_option linter.unusedSimpArgs false
set_option linter.unusedVariables false
set_option maxRecDepth 100000
open Go.RowKit
set_option maxHeartbeats 1000000 in
theorem stepIn_no {Hq : Nat → Prop} {w : World} {B bm nk ck : Nat} {sk : Option Addr} {vc vm vt : Value} {LC : List CV} {LK : List KV} {S : List RS} {d : MD} (who late : Int) (h : MQ w B Hq vc (.slice sk nk ck) vm vt LC LK S d) (m1 : w.cell? ⟨bm, 3, none⟩ = some (.slice sk nk ck)) (m3 : w.cell? ⟨bm, 5, none⟩ = some vt) (fm : ∀ j, w.frozen? ⟨bm, j, none⟩ = false) (bx : BxW w bm) (hB : B ≤ w.heap.size) (hn : nk = d.cores.length) (hw : ¬ (0 ≤ who ∧ who < (d.cores.length : Int))) :
  Calls Tryz.prog 124 #[.pointer (some ⟨bm,2,none⟩),.agg #[.int .i64 who,.int .i64 late]] w (TurnQ w B Hq bm vc (.slice sk nk ck) vm LC (stepM d who late)):=by
 rw [stepM_none late hw]
 have zm:=bx.lt
 have H:=hidM1 h
 have HW:Hid (¬ (0≤who∧who < (nk:Int))):=by rw [hn];exact hw
 have M3:=hidM1 m3
 have FM:=hidM1 fm
 clear h hn hw m3 fm
 go_enter Tryz.func124,Tryz.ntmps124
 go_wp2_with fail
 obtain ⟨V,hV⟩:∃ V,w.alloc (.cells #[.int .i64 who,.int .i64 late] 121)=V:=⟨_,rfl⟩
 have kv:Below w.heap.size w V:=by subst hV;exact (Below.refl _ _).alloc (Nat.le_refl _) _
 have zV:w.heap.size < V.heap.size:=by subst hV;simp
 have t0:V.cell? ⟨w.heap.size,0,none⟩=some (.int .i64 who):=by subst hV;simp [go_sem]
 rw [hV]
 have hne:=ext_ne V
 have u0:=Ext.fit t0 zV
 have u1:=Ext.fit ((kv.cell (p:=⟨bm,3,none⟩) zm).trans m1) (by omega)
 refine regionExt V (by kernel_rfl) (by kernel_rfl) ?_
 repeat (go_big_quiet_step ((rename_i X;go_at_call 31;refine (isOneOf_is _ _ false _ (by have:=HW.out;unfold Plain.oneB;simp;omega)).mono ?_;rintro e w3 ⟨rfl,hw3⟩;exact ⟨rfl,by rw [hw3];exact X.on (Below.refl _ _)⟩)))
 refine wpQuiet_nil ?_
 rintro w3 ⟨X3,rfl⟩
 have KB:=hidM1 (kv.trans (X3.b.mono (by omega)))
 clear hne u0 u1 kv t0 hV
 go_wp2
 go_ret
 have hm:=KB.out.block bm zm
 exact ⟨rfl,vt,LK,S,H.out.keep (fun b _ h1=>KB.out.block b h1) KB.out.size,(World.cell?_of_block hm).trans M3.out,fun j _=>World.cell?_of_block hm,fun j=>(World.frozen?_of_block hm).trans (FM.out j),bx.same hm,KB.out.mono hB,fun b h1 _ _=>KB.out.block b h1⟩
set_option maxHeartbeats 2000000 in
theorem stepIn_yes {Hq : Nat → Prop} {w : World} {B bm p gc cc gk ck gs cs gr cr gv cv gO cO cT who : Nat} {sT : Option Addr} {vc vk vm vt : Value} {LC : List CV} {LK : List KV} {S : List RS} {d : MD} {k : KD} {code : List I5} {s : I5} {late : Int} (h : MQ w B Hq vc vk vm vt LC LK S d) (ha : At8 d who k code s) (O : Op8 w B vc vk vm vt LK d who p k code s gc cc gk ck gs cs gr cr gv cv gO cO sT cT) (m0 : w.cell? ⟨bm, 2, none⟩ = some vc) (m1 : w.cell? ⟨bm, 3, none⟩ = some vk) (m2 : w.cell? ⟨bm, 4, none⟩ = some vm) (m3 : w.cell? ⟨bm, 5, none⟩ = some vt) (fm : ∀ j, w.frozen? ⟨bm, j, none⟩ = false) (bx : BxW w bm) (bB : B ≤ bm) (hB : B ≤ w.heap.size) (hmach : machB d = true) (hlate : late ≤ 9223372036854775807) :
  Calls Tryz.prog 124 #[.pointer (some ⟨bm,2,none⟩),.agg #[.int .i64 who,.int .i64 late]] w (TurnQ w B Hq bm vc vk vm LC (stepM d who late)):=by
 have zm:=bx.lt
 have ek:=O.ek
 subst ek
 obtain ⟨X,hX⟩:∃ X,stepM d who late=X:=⟨_,rfl⟩
 rw [hX]
 have HX:=hidM1 hX
 have wk:=O.wk
 have b0:(0:Int)≤(who:Int):=by omega
 have hl:(who:Int) < (LK.length:Int):=by omega
 have zk:=O.zk
 have H:=hidM1 h
 have HA:=hidM1 ha
 have HO:=hidM1 O
 have M0:=hidM1 m0
 have M1:=hidM1 m1
 have M2:=hidM1 m2
 have M3:=hidM1 m3
 have FM:=hidM1 fm
 have HM:=hidM1 hmach
 clear h ha O m0 m1 m2 m3 fm hX hmach
 go_enter Tryz.func124,Tryz.ntmps124
 go_wp2_with fail
 obtain ⟨V,hV⟩:∃ V,w.alloc (.cells #[.int .i64 who,.int .i64 late] 121)=V:=⟨_,rfl⟩
 have kv:Below w.heap.size w V:=by subst hV;exact (Below.refl _ _).alloc (Nat.le_refl _) _
 have zV:w.heap.size < V.heap.size:=by subst hV;simp
 have t0:V.cell? ⟨w.heap.size,0,none⟩=some (.int .i64 who):=by subst hV;simp [go_sem]
 have t1:V.cell? ⟨w.heap.size,1,none⟩=some (.int .i64 late):=by subst hV;simp [go_sem]
 rw [hV]
 clear hV
 have hne:=ext_ne V
 have u0:=Ext.fit t0 zV
 have u1:=Ext.fit ((kv.cell (p:=⟨bm,3,none⟩) zm).trans M1.out) (by omega)
 refine regionExt V (by kernel_rfl) (by kernel_rfl) ?_
 repeat (go_big_quiet_step ((rename_i X;go_at_call 31;refine (isOneOf_is _ _ true _ (by unfold Plain.oneB;simp;omega)).mono ?_;rintro e w3 ⟨rfl,hw3⟩;exact ⟨rfl,by rw [hw3];exact X.on (Below.refl _ _)⟩)))
 refine wpQuiet_nil ?_
 rintro w3 ⟨X3,rfl⟩
 obtain ⟨U,hU⟩:∃ U,X3.w=U:=⟨_,rfl⟩
 have hb:=X3.b
 rw [hU] at hb ⊢
 have kU:Below w.heap.size w U:=kv.trans (hb.mono (by omega))
 have sU:=hb.size
 have t0u:=(hb.cell (p:=⟨w.heap.size,0,none⟩) zV).trans t0
 have t1u:=(hb.cell (p:=⟨w.heap.size,1,none⟩) zV).trans t1
 clear hne u0 u1 kv t0 t1 hU X3 hb
 go_wp2_with fail
 have hne:=ext_ne U
 have u0:=Ext.fit t0u (by omega)
 have u1:=Ext.fit ((kU.cell (p:=⟨bm,3,none⟩) zm).trans M1.out) (by omega)
 refine regionExt U (by kernel_rfl) (by kernel_rfl) ?_
 repeat (go_big_quiet_step (fail))
 refine wpQuiet_nil ?_
 rintro w3 ⟨X3,rfl⟩
 obtain ⟨T,hT⟩:∃ T,X3.w=T:=⟨_,rfl⟩
 have hb:=X3.b
 rw [hT] at hb ⊢
 have kT:Below w.heap.size w T:=kU.trans (hb.mono (by omega))
 have sT':=hb.size
 have t0t:=(hb.cell (p:=⟨w.heap.size,0,none⟩) (by show w.heap.size < _;omega)).trans t0u
 have t1t:=(hb.cell (p:=⟨w.heap.size,1,none⟩) (by show w.heap.size < _;omega)).trans t1u
 clear hne u0 u1 kU t0u t1u hT X3 hb
 go_wp2_with fail
 have hne:=extP_ne T (fun _=>False)
 have u0:=ExtP.fit (E:=fun _=>False) t0t (by omega) (fun e=>e)
 have u1:=ExtP.fit (E:=fun _=>False) t1t (by omega) (fun e=>e)
 have u2:=ExtP.fit (E:=fun _=>False) ((kT.cell (p:=⟨gk,who * 4+2,none⟩) zk).trans HO.out.k2) (by omega) (fun e=>e)
 refine regionMix T (CP T (fun _=>False)) 8 9 (by kernel_rfl) (by kernel_rfl) (fun _ _ d _ _ h=>by cases d<;>exact h) (CP.drew _ _) ?_
 unfold CP
 dsimp only [List.take,List.drop]
 repeat (go_big_quiet_step (fail))
 refine wpQuiet_nil ?_
 clear hne u0 u1 u2
 unfold wpListC
 go_wp2
 refine And.intro (fun _ hc=>CP.below hc ((Below.refl _ _).alloc (Nat.le_refl _) _)) ?_
 refine listC_late _ _ _ _ (by decide) ?_
 go_wp2_with fail
 obtain ⟨Y,hY⟩:∃ Y,(T.alloc (.cells #[.slice (some ⟨gv,0,none⟩) 24 cv,.pointer (some ⟨gk,who * 4,none⟩),.pointer (some ⟨bm,2,none⟩),.int .i64 who,.int .i64 late] 202)).drew=Y:=⟨_,rfl⟩
 have kY:Below T.heap.size T Y:=by subst hY;exact Below.drew ((Below.refl _ _).alloc (Nat.le_refl _) _)
 have sY:T.heap.size < Y.heap.size:=by subst hY;show T.heap.size < (T.alloc _).heap.size;simp
 have y0:Y.cell? ⟨T.heap.size,0,none⟩=some (.slice (some ⟨gv,0,none⟩) 24 cv):=by subst hY;show (T.alloc _).cell? _=_;simp [go_sem]
 have y1:Y.cell? ⟨T.heap.size,1,none⟩=some (.pointer (some ⟨gk,who * 4,none⟩)):=by subst hY;show (T.alloc _).cell? _=_;simp [go_sem]
 have y2:Y.cell? ⟨T.heap.size,2,none⟩=some (.pointer (some ⟨bm,2,none⟩)):=by subst hY;show (T.alloc _).cell? _=_;simp [go_sem]
 have y3:Y.cell? ⟨T.heap.size,3,none⟩=some (.int .i64 who):=by subst hY;show (T.alloc _).cell? _=_;simp [go_sem]
 have y4:Y.cell? ⟨T.heap.size,4,none⟩=some (.int .i64 late):=by subst hY;show (T.alloc _).cell? _=_;simp [go_sem]
 rw [hY]
 clear hY
 have kW:Below w.heap.size w Y:=kT.trans (kY.mono (by omega))
 have OY:=HO.out.below kW
 have cm:∀ j,Y.cell? ⟨bm,j,none⟩=w.cell? ⟨bm,j,none⟩:=fun j=>kW.cell (p:=⟨bm,j,none⟩) zm
 have RY:Rn Y T.heap.size bm gk gc gs gr gv who code.length cv cr cs late vc (.slice (some ⟨gk,0,none⟩) LK.length ck) vm vt d.codes.length cc p k.st:=⟨y0,y1,y2,y3,y4,(cm 2).trans M0.out,(cm 3).trans M1.out,(cm 4).trans M2.out,(cm 5).trans M3.out,fun j=>(kW.frozen (p:=⟨bm,j,none⟩) zm).trans (FM.out j),OY.ec,OY.c0,by rw [← OY.hp];exact OY.k0,OY.k1,OY.k3,OY.fk,OY.wc,sY,by omega,OY.zk,OY.zc,OY.zr⟩
 have TN:=turn_any (H.out.keep (w':=Y) (fun b _ h1=>kW.block b h1) kW.size) HA.out OY RY (bx.same (kW.block bm zm)) bB (by omega) HM.out hlate (MQ.far H.out HO.out zm T.heap.size (by omega))
 rw [HX.out] at TN
 have HT:=hidM1 TN
 have KW:=hidM1 kW
 clear TN OY RY y0 y1 y2 y3 y4 t0t t1t kT kY cm kW
 refine Calls.mono HT.out ?_
 rintro e w6 ⟨rfl,vt6,LK6,S6,q6,c3,cj,fj,bx6,b6,f6⟩
 have Q6:=hidM1 q6
 have C3:=hidM1 c3
 have CJ:=hidM1 cj
 have FJ:=hidM1 fj
 have BX6:=hidM1 bx6
 have B6:=hidM1 b6
 have F6:=hidM1 f6
 clear q6 c3 cj fj bx6 b6 f6
 go_wp2
 go_ret
 exact ⟨rfl,vt6,LK6,S6,Q6.out,C3.out,fun j hj=>(CJ.out j hj).trans (KW.out.cell (p:=⟨bm,j,none⟩) zm),FJ.out,BX6.out,(KW.out.mono hB).trans B6.out,fun b h1 h2 h3=>(F6.out b (by have:=KW.out.size;omega) h2 h3).trans (KW.out.block b h1)⟩
theorem stepIn_any {Hq : Nat → Prop} {w : World} {B bm : Nat} {vc vk vm vt : Value} {LC : List CV} {LK : List KV} {S : List RS} {d : MD} (who late : Int) (h : MQ w B Hq vc vk vm vt LC LK S d) (m0 : w.cell? ⟨bm, 2, none⟩ = some vc) (m1 : w.cell? ⟨bm, 3, none⟩ = some vk) (m2 : w.cell? ⟨bm, 4, none⟩ = some vm) (m3 : w.cell? ⟨bm, 5, none⟩ = some vt) (fm : ∀ j, w.frozen? ⟨bm, j, none⟩ = false) (bx : BxW w bm) (bB : B ≤ bm) (hB : B ≤ w.heap.size) (hmach : machB d = true) (hlate : late ≤ 9223372036854775807) :
  Calls Tryz.prog 124 #[.pointer (some ⟨bm,2,none⟩),.agg #[.int .i64 who,.int .i64 late]] w (TurnQ w B Hq bm vc vk vm LC (stepM d who late)):=by
 by_cases hw:0≤who∧who < (d.cores.length:Int)
 ·obtain ⟨n,rfl⟩:∃ n:Nat,who=(n:Int):=⟨who.toNat,by omega⟩
  obtain ⟨k,code,s,ha⟩:=mach_at hmach (who:=n) (by omega)
  obtain ⟨p,gc,cc,gk,ck,gs,cs,gr,cr,gv,cv,gO,cO,st,ct,O⟩:=h.open ha
  exact stepIn_yes h ha O m0 m1 m2 m3 fm bx bB hB hmach hlate
 ·have lk:LK.length=d.cores.length:=by rw [← h.ek,List.length_map]
  obtain ⟨sk,ck,hvk⟩:=ownSl h.k.row
  subst hvk
  exact stepIn_no who late h m1 m3 fm bx hB lk hw
end
section
set_option linter.unusedSimpArgs false
set_option linter.unusedVariables false
set_option maxRecDepth 100000
open Go.RowKit
set_option maxHeartbeats 2000000 in
theorem implMachineOk_any (s1 s2 s3 s4 : Option Addr) (c1 c2 c3 c4 lo hi : Nat) (d : MD) (w : World) (h : MaR w lo hi s1 s2 s3 s4 d) (hB : hi ≤ w.heap.size) (hf : MaFits d) :
  Calls Tryz.prog 18 #[.agg #[.slice s1 d.codes.length c1,.slice s2 d.cores.length c2,.slice s3 d.mem.length c3,.slice s4 d.tr.length c4]] w fun e w'=>e=.returned (.bool (machB d))∧Below w.heap.size w w':=by
 have H:Hid (MaR w lo hi s1 s2 s3 s4 d):=h
 have F1:d.codes.length+szC d.codes≤1048576:=hf.c
 have F2:d.cores.length+szK d.cores≤1048576:=by have:=hf.k;omega
 have F3:d.mem.length+szR d.mem≤2000000:=hf.m
 have F4:d.tr.length≤2000000:=hf.t
 clear h hf
 go_enter Tryz.func18,Tryz.ntmps18
 go_wp2_with fail
 obtain ⟨W,hW,bx,kb,zb⟩:=B4.new w (.slice s1 d.codes.length c1) (.slice s2 d.cores.length c2) (.slice s3 d.mem.length c3) (.slice s4 d.tr.length c4) 38
 rw [hW]
 clear hW
 have A0:Hid (B4 W w.heap.size (.slice s1 d.codes.length c1) (.slice s2 d.cores.length c2) (.slice s3 d.mem.length c3) (.slice s4 d.tr.length c4)):=bx
 have K0:Hid (Below w.heap.size w W):=kb
 clear bx kb
 refine (codesOk_any s1 c1 lo hi d.codes W (H.out.keep (Keep.of_below K0.out hB)).1 (by omega) F1).mono ?_
 rintro e w1 ⟨rfl,hb1⟩
 have A1:Hid (B4 w1 w.heap.size (.slice s1 d.codes.length c1) (.slice s2 d.cores.length c2) (.slice s3 d.mem.length c3) (.slice s4 d.tr.length c4)):=A0.out.keep (hb1.mono (Nat.le_refl _)) A0.out.z
 have K1:Hid (Below w.heap.size w w1):=K0.out.trans (hb1.mono (by omega))
 obtain ⟨p0,p1,p2,p3,p4⟩:=A1.out
 clear hb1
 cases hc:codesB d.codes
 ·have E:Hid (machB d=false):=by show _=_;unfold machB;rw [hc];rfl
  clear hc
  go_wp2
  go_ret
  exact ⟨ret_bool' E.out.symm,K1.out⟩
 have HC:Hid (codesB d.codes=true):=hc
 clear hc
 go_wp2_with fail
 have R1:Hid (MaR w1 lo hi s1 s2 s3 s4 d):=H.out.keep (Keep.of_below K1.out hB)
 refine (coresOk_any s2 s1 s3 c2 c1 c3 lo hi d.cores d.codes d.mem _ R1.out.2.1 R1.out.1 R1.out.2.2.1 (by omega) F2 F1).mono ?_
 rintro e w2 ⟨rfl,hb2⟩
 all_goals
  have hb3:Below w1.heap.size w1 w2:=⟨hb2.os,hb2.tape,hb2.output,hb2.size,hb2.block⟩
  have A2:Hid (B4 w2 w.heap.size (.slice s1 d.codes.length c1) (.slice s2 d.cores.length c2) (.slice s3 d.mem.length c3) (.slice s4 d.tr.length c4)):=A1.out.keep hb3 A1.out.z
  have K2:Hid (Below w.heap.size w w2):=K1.out.trans (hb3.mono (by omega))
  clear p1 p2 p3 p4 hb2 hb3 R1
  obtain ⟨p0,p1,p2,p3,p4⟩:=A2.out
  cases hc:coresB d.mem d.cores d.codes
  ·have E:Hid (machB d=false):=by show _=_;unfold machB;rw [hc];simp
   clear hc
   go_wp2
   go_ret
   exact ⟨ret_bool' E.out.symm,K2.out⟩
  have HK:Hid (coresB d.mem d.cores d.codes=true):=hc
  clear hc
  have R2:Hid (MaR w2 lo hi s1 s2 s3 s4 d):=H.out.keep (Keep.of_below K2.out hB)
  go_wp2_with fail
  refine (traceOk_any s4 c4 lo hi d.cores.length d.tr _ R2.out.2.2.2 (by omega) F4 (by omega)).mono ?_
  rintro e w3 ⟨rfl,hb4⟩
  all_goals
   have hb5:Below w2.heap.size w2 w3:=⟨hb4.os,hb4.tape,hb4.output,hb4.size,hb4.block⟩
   have A3:Hid (B4 w3 w.heap.size (.slice s1 d.codes.length c1) (.slice s2 d.cores.length c2) (.slice s3 d.mem.length c3) (.slice s4 d.tr.length c4)):=A2.out.keep hb5 A2.out.z
   have K3:Hid (Below w.heap.size w w3):=K2.out.trans (hb5.mono (by omega))
   clear p1 p2 p3 p4 hb4 hb5 R2
   obtain ⟨p0,p1,p2,p3,p4⟩:=A3.out
   cases hc:trB d.tr d.cores.length
   ·have E:Hid (machB d=false):=by show _=_;unfold machB;rw [hc];simp
    clear hc
    go_wp2
    go_ret
    exact ⟨ret_bool' E.out.symm,K3.out⟩
   have HT:Hid (trB d.tr d.cores.length=true):=hc
   clear hc
   have R3:Hid (MaR w3 lo hi s1 s2 s3 s4 d):=H.out.keep (Keep.of_below K3.out hB)
   have z3:=K3.out.size
   go_wp2_with fail
   refine (implMemoryOk_any s3 c3 lo hi d.mem _ R3.out.2.2.1 (by omega) F3).mono ?_
   rintro e w4 ⟨rfl,hb6⟩
   have K4:Hid (Below w.heap.size w w4):=K3.out.trans (hb6.mono (by omega))
   have E:Hid (machB d=memB d.mem):=by show _=_;unfold machB;rw [HC.out,HK.out,HT.out];rfl
   clear hb6
   go_wp2
   go_ret
   exact ⟨ret_bool' E.out.symm,K4.out⟩
end
section
set_option linter.unusedSimpArgs false
set_option linter.unusedVariables false
set_option maxRecDepth 100000
open Go.RowKit
def noMd:MD:=⟨[],[],[],[]⟩
def noMP:MP:=⟨none,0,[],none,0,[],none,0,[],none,0⟩
theorem noMa (w:World) (lo hi:Nat):MaO w lo hi noMP noMd:=⟨GO.nil _ _ _ _ _,GO.nil _ _ _ _ _,MO.nil _ _ _ _,⟨rfl,.inl rfl⟩,by simp [MP.as,noMP,noMd,gAs,mAs,MP.x4,VS.wide,vAs]⟩
end
section
set_option linter.unusedSimpArgs false
set_option linter.unusedVariables false
set_option maxRecDepth 100000
open Go.RowKit
theorem app_one {ops : Array Oper} {rest : List Oper} {o : Oper} {a : Act} {Q : Exit → Act → World → Prop} (hgd : o.guard = none) (s x : Operand) (ho : o.op = .call { callee := .builtin .append, args := #[s, x], argTypes := #[51, 51] })
  (w:World) (z:Int) (base:Nat) (v:Value) (ls:List Int) (hs:a.eval s=v) (hown:OwnN w base v ls) (hx:a.eval x=.slice (some ⟨w.heap.size,0,none⟩) 1 1) (hn:ls.length≤1099511627775) (hbase:base≤w.heap.size)
  (h:∀ g cap w',OwnN w' base (.slice (some ⟨g,0,none⟩) (ls.length+1) cap) (ls++[z])→Below base w w'→(∀ k,k < w.heap.size→v.ownBlock≠some k→w'.heap[k]? =w.heap[k]? ∧k≠g)→wpList Tryz.prog ops Q rest (a.put o.dst (.slice (some ⟨g,0,none⟩) (ls.length+1) cap)) w'):
  wpList Tryz.prog ops Q (o::rest) a (w.alloc (.cells #[.int .i64 z] 3)):=by
 obtain ⟨i0,hi,hz0,hz1,hz2⟩:=infoInt
 have h1':=hown.alloc (.cells #[.int .i64 z] 3)
 refine wpList_append_lies _ hgd s x 51 ho base 3 i0 _ 1 8 Tryz.underlying51 hi hz0 hz1 hz2 rfl (by decide) v ls.length _ hs h1' ⟨w.heap.size,0,none⟩ 1 1 [.int .i64 z] hx rfl (newN1 w _) (fun u hu=>by simp at hu;subst hu;rfl) (by decide) (by unfold maxLen;omega) (by omega) (by simp;omega) _ rfl ?_
 intro g cap w' q1 q2 q3 q4
 have hb:Below base w w':=Below.grown (((Below.refl _ _).alloc hbase _)) q2 (by simp;omega) (fun j hj=>(World.ownsRow.lt h1' _ hj).1)
 refine h g cap w' ?_ hb (fun k hk hne=>?_)
 ·show w'.ownsRow base 3 1 _ (ls++[z]).length ((ls++[z]).map (Value.int .i64))
  rw [List.map_append,List.length_append]
  exact q1
 ·refine ⟨(q2.block k (by simp;omega) (fun e=>hne e.symm)).trans (Below.heap_alloc _ _ _ hk),?_⟩
  rintro rfl
  rcases q3 with q3 | q3
  ·exact hne q3
  ·simp at q3;omega
end
end Go.Proofs.YtlbeploopclegaaGreat
