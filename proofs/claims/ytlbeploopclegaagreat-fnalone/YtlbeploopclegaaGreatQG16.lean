/- A runner of the program jumps, ends, faults. No condition. A runner of the program prints, or has no room for it. No condition. A runner of the program does a step of memory, over what its touch does. No condition. -/
import Derived.Test.YtlbeploopclegaaGreatQG00
import Derived.Test.YtlbeploopclegaaGreatQG01
import Derived.Test.YtlbeploopclegaaGreatQG10
import Derived.Test.YtlbeploopclegaaGreatQG12
import Derived.Test.YtlbeploopclegaaGreatQG13
import Derived.Test.YtlbeploopclegaaGreatQG02
import Derived.Test.YtlbeploopclegaaGreatQG15
import Derived.Test.YtlbeploopclegaaGreatQG04
import Derived.Test.YtlbeploopclegaaGreatQG14
import Derived.Test.YtlbeploopclegaaGreatQG07
import Derived.Test.YtlbeploopclegaaGreatQC7Leaf
namespace Go.Proofs.YtlbeploopclegaaGreat
section
set_option linter.unusedSimpArgs false
set_option linter.unusedVariables false
set_option maxRecDepth 100000
open Go.RowKit
set_option maxHeartbeats 1000000 in
theorem do10 {Hq : Nat → Prop} {w : World} {B R bm gk gc gs gr gv who n cv cr cs ck N p : Nat} {late : Int} {vc vm vt : Value} {nc cc : Nat} {st : Int} {LC : List CV} {LK : List KV} {S : List RS} {d : MD} {k : KD} (r a b nn : Int) (h : Rn w R bm gk gc gs gr gv who n cv cr cs late vc (.slice (some ⟨gk, 0, none⟩) N ck) vm vt nc cc p st) (hq : MQ w B Hq vc (.slice (some ⟨gk, 0, none⟩) N ck) vm vt LC LK S d) (hN : LK.length = N) (hx : LK[who]? = some ⟨k, .slice (some ⟨gr, 0, none⟩) 8 cr, .slice (some ⟨gv, 0, none⟩) 24 cv⟩) (hp : k.pc = p) (hn8 : n ≤ 800) (hpn : p < n) (hB : B ≤ w.heap.size) (h0 : 0 ≤ nn) (h1 : nn < (n : Int)) :
  Calls Tryz.prog 158 #[.pointer (some ⟨R,0,none⟩),.agg #[.int .i64 10,.int .i64 r,.int .i64 a,.int .i64 b,.int .i64 nn]] w fun e w'=>e=.returned (.int .i64 0)∧∃ LK',MQ w' B Hq vc (.slice (some ⟨gk,0,none⟩) N ck) vm vt LC LK' S (stepAt d who late k n ⟨10,r,a,b,nn⟩).1∧Below B w w'∧∀ b',b' < w.heap.size→b'≠gk→w'.heap[b']? =w.heap[b']? :=by
 obtain ⟨V,hV⟩:∃ V,w.alloc (.cells #[.int .i64 10,.int .i64 r,.int .i64 a,.int .i64 b,.int .i64 nn] 141)=V:=⟨_,rfl⟩
 have kv:Below w.heap.size w V:=by subst hV;exact (Below.refl _ _).alloc (Nat.le_refl _) _
 have zV:w.heap.size < V.heap.size:=by subst hV;simp
 have QV:=hidM1 (hq.keep (w':=V) (fun b _ h1=>kv.block b h1) kv.size)
 have RV:=hidM1 (h.below kv)
 have bgk:B≤gk:=(World.ownsRow.lt hq.k.row gk rfl).1
 have HX:=hidM1 hx
 have KV:=hidM1 kv
 have HV:=hidM1 hV
 have EQ:Hid (stepAt d who late k n ⟨10,r,a,b,nn⟩=(goM d who k n nn,0)):=stepAt10 _ _ _ _ _ _ rfl
 have GT:=hidM1 (goTo_yes nn RV.out h0 h1)
 clear hq hx kv hV h
 go_enter Tryz.func158,Tryz.ntmps158
 go_wp2_with fail
 rw [HV.out]
 refine Calls.mono GT.out ?_
 rintro e w6 ⟨rfl,hb6⟩
 have HB6:=hidM1 hb6
 clear hb6
 go_wp2
 go_ret
 obtain ⟨LK2,q2⟩:=MQ.go (n:=n) QV.out hN HX.out nn h1 (F:=w6) (fun b hb=>HB6.out.block b hb) (by simpa using HB6.out.size)
 refine ⟨rfl,LK2,by rw [EQ.out];exact q2,((KV.out.mono hB).setCell (p:=⟨gk,who * 4,none⟩) bgk _).trans (HB6.out.mono (by omega)),fun b' h1 h3=>(HB6.out.block b' (by omega)).trans ((Below.heap_setCell _ ⟨gk,_,none⟩ _ b' h3).trans (KV.out.block b' h1))⟩
set_option maxHeartbeats 1000000 in
theorem do12 {Hq : Nat → Prop} {w : World} {B R bm gk gc gs gr gv who n cv cr cs ck N p : Nat} {late : Int} {vc vm vt : Value} {nc cc : Nat} {st : Int} {LC : List CV} {LK : List KV} {S : List RS} {d : MD} {k : KD} (r a b nn : Int) (h : Rn w R bm gk gc gs gr gv who n cv cr cs late vc (.slice (some ⟨gk, 0, none⟩) N ck) vm vt nc cc p st) (hq : MQ w B Hq vc (.slice (some ⟨gk, 0, none⟩) N ck) vm vt LC LK S d) (hN : LK.length = N) (hx : LK[who]? = some ⟨k, .slice (some ⟨gr, 0, none⟩) 8 cr, .slice (some ⟨gv, 0, none⟩) 24 cv⟩) (hp : k.pc = p) (hn8 : n ≤ 800) (hpn : p < n) (hB : B ≤ w.heap.size) :
  Calls Tryz.prog 158 #[.pointer (some ⟨R,0,none⟩),.agg #[.int .i64 12,.int .i64 r,.int .i64 a,.int .i64 b,.int .i64 nn]] w fun e w'=>e=.returned (.int .i64 0)∧∃ LK',MQ w' B Hq vc (.slice (some ⟨gk,0,none⟩) N ck) vm vt LC LK' S (stepAt d who late k n ⟨12,r,a,b,nn⟩).1∧Below B w w'∧∀ b',b' < w.heap.size→b'≠gk→w'.heap[b']? =w.heap[b']? :=by
 obtain ⟨V,hV⟩:∃ V,w.alloc (.cells #[.int .i64 12,.int .i64 r,.int .i64 a,.int .i64 b,.int .i64 nn] 141)=V:=⟨_,rfl⟩
 have kv:Below w.heap.size w V:=by subst hV;exact (Below.refl _ _).alloc (Nat.le_refl _) _
 have zV:w.heap.size < V.heap.size:=by subst hV;simp
 have QV:=hidM1 (hq.keep (w':=V) (fun b _ h1=>kv.block b h1) kv.size)
 have RV:=hidM1 (h.below kv)
 have bgk:B≤gk:=(World.ownsRow.lt hq.k.row gk rfl).1
 have HX:=hidM1 hx
 have KV:=hidM1 kv
 have HV:=hidM1 hV
 have EQ:Hid (stepAt d who late k n ⟨12,r,a,b,nn⟩=(putK d who { k with st:=1 },0)):=stepAt12 _ _ _ _ _ _ rfl
 have GT:=hidM1 (stop_any 1 RV.out)
 clear hq hx kv hV h
 go_enter Tryz.func158,Tryz.ntmps158
 go_wp2_with fail
 rw [HV.out]
 refine Calls.mono GT.out ?_
 rintro e w6 ⟨rfl,hb6⟩
 have HB6:=hidM1 hb6
 clear hb6
 go_wp2
 go_ret
 obtain ⟨LK2,q2⟩:=MQ.st QV.out hN HX.out 1 (F:=w6) (fun b hb=>HB6.out.block b hb) (by simpa using HB6.out.size)
 refine ⟨rfl,LK2,by rw [EQ.out];exact q2,((KV.out.mono hB).setCell (p:=⟨gk,who * 4+3,none⟩) bgk _).trans (HB6.out.mono (by omega)),fun b' h1 h3=>(HB6.out.block b' (by omega)).trans ((Below.heap_setCell _ ⟨gk,_,none⟩ _ b' h3).trans (KV.out.block b' h1))⟩
set_option maxHeartbeats 1000000 in
theorem do13 {Hq : Nat → Prop} {w : World} {B R bm gk gc gs gr gv who n cv cr cs ck N p : Nat} {late : Int} {vc vm vt : Value} {nc cc : Nat} {st : Int} {LC : List CV} {LK : List KV} {S : List RS} {d : MD} {k : KD} (r a b nn : Int) (h : Rn w R bm gk gc gs gr gv who n cv cr cs late vc (.slice (some ⟨gk, 0, none⟩) N ck) vm vt nc cc p st) (hq : MQ w B Hq vc (.slice (some ⟨gk, 0, none⟩) N ck) vm vt LC LK S d) (hN : LK.length = N) (hx : LK[who]? = some ⟨k, .slice (some ⟨gr, 0, none⟩) 8 cr, .slice (some ⟨gv, 0, none⟩) 24 cv⟩) (hp : k.pc = p) (hn8 : n ≤ 800) (hpn : p < n) (hB : B ≤ w.heap.size) :
  Calls Tryz.prog 158 #[.pointer (some ⟨R,0,none⟩),.agg #[.int .i64 13,.int .i64 r,.int .i64 a,.int .i64 b,.int .i64 nn]] w fun e w'=>e=.returned (.int .i64 0)∧∃ LK',MQ w' B Hq vc (.slice (some ⟨gk,0,none⟩) N ck) vm vt LC LK' S (stepAt d who late k n ⟨13,r,a,b,nn⟩).1∧Below B w w'∧∀ b',b' < w.heap.size→b'≠gk→w'.heap[b']? =w.heap[b']? :=by
 obtain ⟨V,hV⟩:∃ V,w.alloc (.cells #[.int .i64 13,.int .i64 r,.int .i64 a,.int .i64 b,.int .i64 nn] 141)=V:=⟨_,rfl⟩
 have kv:Below w.heap.size w V:=by subst hV;exact (Below.refl _ _).alloc (Nat.le_refl _) _
 have zV:w.heap.size < V.heap.size:=by subst hV;simp
 have QV:=hidM1 (hq.keep (w':=V) (fun b _ h1=>kv.block b h1) kv.size)
 have RV:=hidM1 (h.below kv)
 have bgk:B≤gk:=(World.ownsRow.lt hq.k.row gk rfl).1
 have HX:=hidM1 hx
 have KV:=hidM1 kv
 have HV:=hidM1 hV
 have EQ:Hid (stepAt d who late k n ⟨13,r,a,b,nn⟩=(putK d who { k with st:=2 },0)):=stepAt13 _ _ _ _ _ _ rfl
 have GT:=hidM1 (stop_any 2 RV.out)
 clear hq hx kv hV h
 go_enter Tryz.func158,Tryz.ntmps158
 go_wp2_with fail
 rw [HV.out]
 refine Calls.mono GT.out ?_
 rintro e w6 ⟨rfl,hb6⟩
 have HB6:=hidM1 hb6
 clear hb6
 go_wp2
 go_ret
 obtain ⟨LK2,q2⟩:=MQ.st QV.out hN HX.out 2 (F:=w6) (fun b hb=>HB6.out.block b hb) (by simpa using HB6.out.size)
 refine ⟨rfl,LK2,by rw [EQ.out];exact q2,((KV.out.mono hB).setCell (p:=⟨gk,who * 4+3,none⟩) bgk _).trans (HB6.out.mono (by omega)),fun b' h1 h3=>(HB6.out.block b' (by omega)).trans ((Below.heap_setCell _ ⟨gk,_,none⟩ _ b' h3).trans (KV.out.block b' h1))⟩
set_option maxHeartbeats 1000000 in
theorem do11 {Hq : Nat → Prop} {w : World} {B R bm gk gc gs gr gv who n cv cr cs ck N p : Nat} {late : Int} {vc vm vt : Value} {nc cc : Nat} {st : Int} {LC : List CV} {LK : List KV} {S : List RS} {d : MD} {k : KD} (a' : Nat) (r b nn va : Int) (h : Rn w R bm gk gc gs gr gv who n cv cr cs late vc (.slice (some ⟨gk, 0, none⟩) N ck) vm vt nc cc p st) (hq : MQ w B Hq vc (.slice (some ⟨gk, 0, none⟩) N ck) vm vt LC LK S d) (hN : LK.length = N) (hx : LK[who]? = some ⟨k, .slice (some ⟨gr, 0, none⟩) 8 cr, .slice (some ⟨gv, 0, none⟩) 24 cv⟩) (hp : k.pc = p) (hn8 : n ≤ 800) (hpn : p < n) (hB : B ≤ w.heap.size) (ha : a' < 8) (la : w.cell? ⟨gr, a', none⟩ = some (.int .i64 va)) (hva : k.regs.getD a' 0 = va) (h0 : 0 ≤ nn) (h1 : nn < (n : Int)) :
  Calls Tryz.prog 158 #[.pointer (some ⟨R,0,none⟩),.agg #[.int .i64 11,.int .i64 r,.int .i64 a',.int .i64 b,.int .i64 nn]] w fun e w'=>e=.returned (.int .i64 0)∧∃ LK',MQ w' B Hq vc (.slice (some ⟨gk,0,none⟩) N ck) vm vt LC LK' S (stepAt d who late k n ⟨11,r,a',b,nn⟩).1∧Below B w w'∧∀ b',b' < w.heap.size→b'≠gk→w'.heap[b']? =w.heap[b']? :=by
 obtain ⟨V,hV⟩:∃ V,w.alloc (.cells #[.int .i64 11,.int .i64 r,.int .i64 a',.int .i64 b,.int .i64 nn] 141)=V:=⟨_,rfl⟩
 have kv:Below w.heap.size w V:=by subst hV;exact (Below.refl _ _).alloc (Nat.le_refl _) _
 have zV:w.heap.size < V.heap.size:=by subst hV;simp
 have QV:=hidM1 (hq.keep (w':=V) (fun b _ h1=>kv.block b h1) kv.size)
 have RV:=hidM1 (h.below kv)
 have bgk:B≤gk:=(World.ownsRow.lt hq.k.row gk rfl).1
 have HX:=hidM1 hx
 have KV:=hidM1 kv
 have HV:=hidM1 hV
 have EQ0:=hidM1 (stepAt11 d who late k n ⟨11,r,a',b,nn⟩ rfl)
 obtain ⟨r0,r1,r2,r3,r4,m0,m1,m2,m3,fm,ec,c0,k0,k1,k3,fk,wc,zR,zm,zk,zc,zr⟩:=h
 have ba0:(0:Int)≤(a':Int):=by omega
 have ba1:(a':Int) < 8:=by omega
 have w1:IntKind.i64.wrap ((p:Int)+1)=(p:Int)+1:=Go.IntWalk.i64_in _ (by omega)
 have t2:V.cell? ⟨w.heap.size,2,none⟩=some (.int .i64 a'):=by subst hV;simp [go_sem]
 have t4:V.cell? ⟨w.heap.size,4,none⟩=some (.int .i64 nn):=by subst hV;simp [go_sem]
 have u2:=Ext.fit t2 zV
 have u0:=Ext.fit ((kv.cell (p:=⟨R,1,none⟩) zR).trans r1) (by omega)
 have u1:=Ext.fit ((kv.cell (p:=⟨gk,who * 4+1,none⟩) zk).trans k1) (by omega)
 have ua:=Ext.fit ((kv.cell (p:=⟨gr,a',none⟩) zr).trans la) (by omega)
 have hne:=ext_ne V
 clear hq hx kv hV
 go_enter Tryz.func158,Tryz.ntmps158
 go_wp2_with fail
 rw [HV.out]
 refine regionExt V (by kernel_rfl) (by kernel_rfl) ?_
 repeat (go_big_quiet_step (fail))
 refine wpQuiet_nil ?_
 rintro w3 ⟨X3,rfl⟩
 obtain ⟨U,hU⟩:∃ U,X3.w=U:=⟨_,rfl⟩
 have hb3:=X3.b
 rw [hU] at hb3 ⊢
 have KU:=hidM1 (KV.out.trans (hb3.mono (by omega)))
 have QU:=hidM1 (QV.out.keep (w':=U) (fun b _ h1=>hb3.block b h1) hb3.size)
 have RU:=RV.out.below hb3
 have HRU:=hidM1 RU
 have zU:w.heap.size < U.heap.size:=by have:=hb3.size;omega
 have t4u:=(hb3.cell (p:=⟨w.heap.size,4,none⟩) zV).trans t4
 clear hne u0 u1 u2 ua t2 t4 hU X3 r0 r1 r2 r3 r4 m0 m1 m2 m3 fm c0 k0 k1 k3 fk hb3 la
 obtain ⟨r0,r1,r2,r3,r4,m0,m1,m2,m3,fm,ec',c0,k0,k1,k3,fk,wc',zR',zm',zk',zc',zr'⟩:=RU
 clear ec'
 by_cases hz:va=0
 ·have EQ:Hid (stepAt d who late k n ⟨11,r,a',b,nn⟩=(goM d who k n nn,0)):=by
   show _=_
   rw [EQ0.out]
   unfold regA
   simp only [Int.toNat_natCast,hva,hz,if_true]
  subst hz
  have GT:=hidM1 (goTo_yes nn HRU.out h0 h1)
  go_wp2_with fail
  refine Calls.mono GT.out ?_
  rintro e w6 ⟨rfl,hb6⟩
  have HB6:=hidM1 hb6
  clear hb6
  go_wp2
  go_ret
  obtain ⟨LK2,q2⟩:=MQ.go (n:=n) QU.out hN HX.out nn h1 (F:=w6) (fun b hb=>HB6.out.block b hb) (by simpa using HB6.out.size)
  refine ⟨rfl,LK2,by rw [EQ.out];exact q2,((KU.out.mono hB).setCell (p:=⟨gk,who * 4,none⟩) bgk _).trans (HB6.out.mono (by omega)),fun b' h1 h3=>(HB6.out.block b' (by omega)).trans ((Below.heap_setCell _ ⟨gk,_,none⟩ _ b' h3).trans (KU.out.block b' h1))⟩
 ·have EQ:Hid (stepAt d who late k n ⟨11,r,a',b,nn⟩=(goM d who k n (p+1),0)):=by
   show _=_
   rw [EQ0.out]
   unfold regA
   simp only [Int.toNat_natCast,hva,hz,if_false,hp]
  by_cases hin:(p:Int)+1 < (n:Int)
  ·have GT:=hidM1 (goTo_yes ((p:Int)+1) HRU.out (by omega) hin)
   go_wp2_with fail
   refine Calls.mono GT.out ?_
   rintro e w6 ⟨rfl,hb6⟩
   have HB6:=hidM1 hb6
   clear hb6
   go_wp2
   go_ret
   obtain ⟨LK2,q2⟩:=MQ.go (n:=n) QU.out hN HX.out (p+1) hin (F:=w6) (fun b hb=>HB6.out.block b hb) (by simpa using HB6.out.size)
   refine ⟨rfl,LK2,by rw [EQ.out];exact q2,((KU.out.mono hB).setCell (p:=⟨gk,who * 4,none⟩) bgk _).trans (HB6.out.mono (by omega)),fun b' h1 h3=>(HB6.out.block b' (by omega)).trans ((Below.heap_setCell _ ⟨gk,_,none⟩ _ b' h3).trans (KU.out.block b' h1))⟩
  ·have GT:=hidM1 (goTo_no ((p:Int)+1) HRU.out (by omega))
   go_wp2_with fail
   refine Calls.mono GT.out ?_
   rintro e w6 ⟨rfl,hb6⟩
   have HB6:=hidM1 hb6
   clear hb6
   go_wp2
   go_ret
   obtain ⟨LK2,q2⟩:=MQ.no (n:=n) QU.out hN HX.out (p+1) (by omega) (F:=w6) (fun b hb=>HB6.out.block b hb) (by simpa using HB6.out.size)
   refine ⟨rfl,LK2,by rw [EQ.out];exact q2,((KU.out.mono hB).setCell (p:=⟨gk,who * 4+3,none⟩) bgk _).trans (HB6.out.mono (by omega)),fun b' h1 h3=>(HB6.out.block b' (by omega)).trans ((Below.heap_setCell _ ⟨gk,_,none⟩ _ b' h3).trans (KU.out.block b' h1))⟩
end
section
set_option linter.unusedSimpArgs false
set_option linter.unusedVariables false
set_option maxRecDepth 100000
open Go.RowKit
set_option maxHeartbeats 1000000 in
theorem do9n {w : World} {R bm gk gc gs gr gv who n cv cr cs nT cT : Nat} {sT : Option Addr} {late : Int} {vc vk vm : Value} {nc cc : Nat} {pc st : Int} (a' : Nat) (r b nn va : Int) (h : Rn w R bm gk gc gs gr gv who n cv cr cs late vc vk vm (.slice sT nT cT) nc cc pc st) (ha : a' < 8) (la : w.cell? ⟨gr, a', none⟩ = some (.int .i64 va)) (hf : 4000 ≤ nT) :
  Calls Tryz.prog 158 #[.pointer (some ⟨R,0,none⟩),.agg #[.int .i64 9,.int .i64 r,.int .i64 a',.int .i64 b,.int .i64 nn]] w fun e w'=>e=.returned (.int .i64 3)∧Below w.heap.size w w':=by
 obtain ⟨V,hV⟩:∃ V,w.alloc (.cells #[.int .i64 9,.int .i64 r,.int .i64 a',.int .i64 b,.int .i64 nn] 141)=V:=⟨_,rfl⟩
 have kv:Below w.heap.size w V:=by subst hV;exact (Below.refl _ _).alloc (Nat.le_refl _) _
 have zV:w.heap.size < V.heap.size:=by subst hV;simp
 have t2:V.cell? ⟨w.heap.size,2,none⟩=some (.int .i64 a'):=by subst hV;simp [go_sem]
 have RV:=hidM1 (h.below kv)
 have KV:=hidM1 kv
 have HV:=hidM1 hV
 obtain ⟨r0,r1,r2,r3,r4,m0,m1,m2,m3,fm,ec,c0,k0,k1,k3,fk,wc,zR,zm,zk,zc,zr⟩:=h
 have ba0:(0:Int)≤(a':Int):=by omega
 have ba1:(a':Int) < 8:=by omega
 have u2:=Ext.fit t2 zV
 have u0:=Ext.fit ((kv.cell (p:=⟨R,1,none⟩) zR).trans r1) (by omega)
 have u1:=Ext.fit ((kv.cell (p:=⟨gk,who * 4+1,none⟩) zk).trans k1) (by omega)
 have ua:=Ext.fit ((kv.cell (p:=⟨gr,a',none⟩) zr).trans la) (by omega)
 have hne:=ext_ne V
 clear kv hV t2
 go_enter Tryz.func158,Tryz.ntmps158
 go_wp2_with fail
 rw [HV.out]
 refine regionSuf V 12 (by kernel_rfl) (by kernel_rfl) (by kernel_rfl) (by kernel_rfl) (by kernel_rfl) ?_
 dsimp only [List.take,List.drop]
 repeat (go_big_quiet_step (fail))
 refine wpQuiet_nil ?_
 rintro w3 ⟨X3,rfl⟩
 obtain ⟨U,hU⟩:∃ U,X3.w=U:=⟨_,rfl⟩
 have hb3:=X3.b
 rw [hU] at hb3 ⊢
 have KU:=hidM1 (KV.out.trans (hb3.mono (by omega)))
 have PN:=hidM1 (print_no va (RV.out.below hb3) hf)
 clear hne u0 u1 u2 ua hU X3 r0 r1 r2 r3 r4 m0 m1 m2 m3 fm c0 k0 k1 k3 fk hb3 la
 go_wp2_with (go_at_call 163;refine Calls.mono PN.out ?_;rintro e w6 ⟨rfl,hw6⟩;rw [hw6];clear hw6 w6)
 go_ret
 exact ⟨rfl,KU.out⟩
end
section
set_option linter.unusedSimpArgs false
set_option linter.unusedVariables false
set_option maxRecDepth 100000
open Go.RowKit
theorem Rn.frame {w w':World} {R bm gk gc gs gr gv who n cv cr cs:Nat} {late:Int} {vc vk vm vt:Value} {nc cc:Nat} {pc st:Int} (h:Rn w R bm gk gc gs gr gv who n cv cr cs late vc vk vm vt nc cc pc st) (hs:w.heap.size≤w'.heap.size) (h1:w'.heap[R]? =w.heap[R]?) (h2:w'.heap[bm]? =w.heap[bm]?) (h3:w'.heap[gk]? =w.heap[gk]?) (h4:w'.heap[gc]? =w.heap[gc]?):Rn w' R bm gk gc gs gr gv who n cv cr cs late vc vk vm vt nc cc pc st:=by
 obtain ⟨r0,r1,r2,r3,r4,m0,m1,m2,m3,fm,ec,c0,k0,k1,k3,fk,wc,zR,zm,zk,zc,zr⟩:=h
 have cR:∀ i,w'.cell? ⟨R,i,none⟩=w.cell? ⟨R,i,none⟩:=fun i=>World.cell?_of_block h1
 have cM:∀ i,w'.cell? ⟨bm,i,none⟩=w.cell? ⟨bm,i,none⟩:=fun i=>World.cell?_of_block h2
 have cK:∀ i,w'.cell? ⟨gk,i,none⟩=w.cell? ⟨gk,i,none⟩:=fun i=>World.cell?_of_block h3
 exact ⟨(cR _).trans r0,(cR _).trans r1,(cR _).trans r2,(cR _).trans r3,(cR _).trans r4,(cM _).trans m0,(cM _).trans m1,(cM _).trans m2,(cM _).trans m3,fun i=>(World.frozen?_of_block h2).trans (fm i),ec,(World.cell?_of_block h4).trans c0,(cK _).trans k0,(cK _).trans k1,(cK _).trans k3,fun i=>(World.frozen?_of_block h3).trans (fk i),wc,by omega,by omega,by omega,by omega,by omega⟩
/- a runner whose machine has another trace -/
theorem Rn.tr {w:World} {R bm gk gc gs gr gv who n cv cr cs:Nat} {late:Int} {vc vk vm vt vt':Value} {nc cc:Nat} {pc st:Int} (h:Rn w R bm gk gc gs gr gv who n cv cr cs late vc vk vm vt nc cc pc st) (h1:R≠bm) (h3:gk≠bm) (h4:gc≠bm):Rn (w.setCell ⟨bm,5,none⟩ vt') R bm gk gc gs gr gv who n cv cr cs late vc vk vm vt' nc cc pc st:=by
 obtain ⟨r0,r1,r2,r3,r4,m0,m1,m2,m3,fm,ec,c0,k0,k1,k3,fk,wc,zR,zm,zk,zc,zr⟩:=h
 have kb:∀ b,b≠bm→(w.setCell ⟨bm,5,none⟩ vt').heap[b]? =w.heap[b]? :=fun b hb=>Below.heap_setCell _ _ _ b hb
 have cR:∀ i,(w.setCell ⟨bm,5,none⟩ vt').cell? ⟨R,i,none⟩=w.cell? ⟨R,i,none⟩:=fun i=>World.cell?_of_block (kb R h1)
 have cK:∀ i,(w.setCell ⟨bm,5,none⟩ vt').cell? ⟨gk,i,none⟩=w.cell? ⟨gk,i,none⟩:=fun i=>World.cell?_of_block (kb gk h3)
 have cM:∀ i,i≠5→(w.setCell ⟨bm,5,none⟩ vt').cell? ⟨bm,i,none⟩=w.cell? ⟨bm,i,none⟩:=fun i hi=>by
  apply World.cell?_setCell_other
  intro e
  injection e with _ e
  omega
 refine ⟨(cR _).trans r0,(cR _).trans r1,(cR _).trans r2,(cR _).trans r3,(cR _).trans r4,(cM _ (by omega)).trans m0,(cM _ (by omega)).trans m1,(cM _ (by omega)).trans m2,World.cell?_setCell_same' w _ _ (by rw [m3];rfl),fun i=>?_,ec,(World.cell?_of_block (kb gc h4)).trans c0,(cK _).trans k0,(cK _).trans k1,(cK _).trans k3,fun i=>(World.frozen?_of_block (kb gk h3)).trans (fk i),wc,by simpa using zR,by simpa using zm,by simpa using zk,by simpa using zc,by simpa using zr⟩
 rw [World.frozen?_setCell]
 exact fm i
theorem cellOf_any {w : World} {R bm gk gc gs gr gv who nn cv cr cs : Nat} {late : Int} {vc vk vm vt : Value} {nc cc : Nat} {pc st : Int} (s : I5) (k : KD) (n : Int) (h : Rn w R bm gk gc gs gr gv who nn cv cr cs late vc vk vm vt nc cc pc st) (hr : ∀ i, i < 8 → w.cell? ⟨gr, i, none⟩ = some (.int .i64 (k.regs.getD i 0))) (hok : stX s n = true) (ho : 5 ≤ s.o ∧ s.o ≤ 8) :
  Calls Tryz.prog 160 #[.pointer (some ⟨R,0,none⟩),.agg #[.int .i64 s.o,.int .i64 s.r,.int .i64 s.a,.int .i64 s.b,.int .i64 s.n]] w fun e w'=>e=.returned (.int .i64 (cellM k s))∧Below w.heap.size w w':=by
 unfold stX Plain.stepB at hok
 rw [decide_eq_true_eq] at hok
 obtain ⟨o,r,a,b,n'⟩:=s
 simp only at ho hok ⊢
 unfold cellM
 by_cases hc:o≠8∧0≤a
 ·rw [if_pos hc]
  obtain ⟨a',ha'⟩:∃ a':Nat,a=a':=⟨a.toNat,by omega⟩
  subst ha'
  have ha8:a' < 8:=by omega
  unfold regA
  simp only [Int.toNat_natCast]
  exact cellOf_r o r b n' _ a' h ha8 (hr a' ha8) (by unfold Plain.memB;simp;omega)
 ·rw [if_neg hc]
  refine cellOf_n o r a b n' ?_
  by_cases h8:o=8
  ·left;subst h8;rfl
  ·right
   omega
set_option maxHeartbeats 4000000 in
theorem doMo {Hq : Nat → Prop} {w : World} {B R bm gk gc gs gr gv who n cv cr cs ck N p : Nat} {late : Int} {vc vm vt : Value} {nc cc : Nat} {st : Int} {LC : List CV} {LK : List KV} {S : List RS} {d : MD} {k : KD} (op r a b nn cl : Int) (hop : op = 5 ∨ op = 6 ∨ op = 7 ∨ op = 8) (h : Rn w R bm gk gc gs gr gv who n cv cr cs late vc (.slice (some ⟨gk, 0, none⟩) N ck) vm vt nc cc p st) (hq : MQ w B Hq vc (.slice (some ⟨gk, 0, none⟩) N ck) vm vt LC LK S d) (hN : LK.length = N) (hx : LK[who]? = some ⟨k, .slice (some ⟨gr, 0, none⟩) 8 cr, .slice (some ⟨gv, 0, none⟩) 24 cv⟩) (hn8 : n ≤ 800) (hpn : p < n) (hB : B ≤ w.heap.size) (hce : ∀ V, Below w.heap.size w V → Calls Tryz.prog 160 #[.pointer (some ⟨R, 0, none⟩), .agg #[.int .i64 op, .int .i64 r, .int .i64 a, .int .i64 b, .int .i64 nn]] V fun e w' => e = .returned (.int .i64 cl) ∧ Below V.heap.size V w') (hcl : ¬ (0 ≤ cl ∧ cl < 24)) :
  Calls Tryz.prog 158 #[.pointer (some ⟨R,0,none⟩),.agg #[.int .i64 op,.int .i64 r,.int .i64 a,.int .i64 b,.int .i64 nn]] w fun e w'=>e=.returned (.int .i64 0)∧∃ LK',MQ w' B Hq vc (.slice (some ⟨gk,0,none⟩) N ck) vm vt LC LK' S (putK d who { k with st:=2 })∧Below B w w'∧∀ b',b' < w.heap.size→b'≠gk→w'.heap[b']? =w.heap[b']? :=by
 obtain ⟨V,hV⟩:∃ V,w.alloc (.cells #[.int .i64 op,.int .i64 r,.int .i64 a,.int .i64 b,.int .i64 nn] 141)=V:=⟨_,rfl⟩
 have kv:Below w.heap.size w V:=by subst hV;exact (Below.refl _ _).alloc (Nat.le_refl _) _
 have zV:w.heap.size < V.heap.size:=by subst hV;simp
 have t0:V.cell? ⟨w.heap.size,0,none⟩=some (.int .i64 op):=by subst hV;simp [go_sem]
 have t1:V.cell? ⟨w.heap.size,1,none⟩=some (.int .i64 r):=by subst hV;simp [go_sem]
 have t2:V.cell? ⟨w.heap.size,2,none⟩=some (.int .i64 a):=by subst hV;simp [go_sem]
 have t3:V.cell? ⟨w.heap.size,3,none⟩=some (.int .i64 b):=by subst hV;simp [go_sem]
 have t4:V.cell? ⟨w.heap.size,4,none⟩=some (.int .i64 nn):=by subst hV;simp [go_sem]
 have bgk:B≤gk:=(World.ownsRow.lt hq.k.row gk rfl).1
 have CE:=hidM1 (hce V kv)
 have H:=hidM1 h
 have HQ:=hidM1 hq
 have HX:=hidM1 hx
 have KV:=hidM1 kv
 have HV:=hidM1 hV
 have T0:=hidM1 t0
 have T1:=hidM1 t1
 have T2:=hidM1 t2
 have T3:=hidM1 t3
 have T4:=hidM1 t4
 clear h hq hx kv hV t0 t1 t2 t3 t4 hce
 rcases hop with rfl | rfl | rfl | rfl
 all_goals
  go_enter Tryz.func158,Tryz.ntmps158
  go_wp2_with fail
  rw [HV.out]
  refine Calls.mono CE.out ?_
  rintro e w1 ⟨rfl,hb1⟩
  have s1:=hb1.size
  have KB:Hid (Below w.heap.size w w1):=KV.out.trans (hb1.mono (by omega))
  have t0:=(hb1.cell (p:=⟨w.heap.size,0,none⟩) zV).trans T0.out
  have t1:=(hb1.cell (p:=⟨w.heap.size,1,none⟩) zV).trans T1.out
  have t2:=(hb1.cell (p:=⟨w.heap.size,2,none⟩) zV).trans T2.out
  have t3:=(hb1.cell (p:=⟨w.heap.size,3,none⟩) zV).trans T3.out
  have t4:=(hb1.cell (p:=⟨w.heap.size,4,none⟩) zV).trans T4.out
  have zz:w.heap.size < w1.heap.size:=by omega
  clear hb1 s1
  go_wp2_with fail
  refine (isOneOf_is _ _ false _ (by unfold Plain.oneB;simp;omega)).mono ?_
  rintro e w2 ⟨rfl,hw2⟩
  rw [hw2]
  clear hw2 w2
  have ST:=hidM1 (stop_any 2 (H.out.below KB.out))
  go_wp2_with fail
  refine Calls.mono ST.out ?_
  rintro e w6 ⟨rfl,hb6⟩
  have HB6:=hidM1 hb6
  clear hb6
  go_wp2
  go_ret
  have QU:=HQ.out.keep (w':=w1) (fun b _ h1=>KB.out.block b h1) (by omega)
  obtain ⟨LK2,q2⟩:=MQ.st QU hN HX.out 2 (F:=w6) (fun b hb=>HB6.out.block b hb) (by simpa using HB6.out.size)
  exact ⟨rfl,LK2,q2,((KB.out.mono hB).setCell (p:=⟨gk,who * 4+3,none⟩) bgk _).trans (HB6.out.mono (by omega)),fun b' h1 h3=>(HB6.out.block b' (by omega)).trans ((Below.heap_setCell _ ⟨gk,_,none⟩ _ b' h3).trans (KB.out.block b' h1))⟩
set_option maxHeartbeats 4000000 in
theorem doMn {Hq : Nat → Prop} {w : World} {B R bm gk gc gs gr gv who n cv cr cs ck N p : Nat} {late : Int} {vc vm vt : Value} {nc cc : Nat} {st : Int} {LC : List CV} {LK : List KV} {S : List RS} {d : MD} {k : KD} (op r a b nn cl : Int) (hop : op = 6 ∨ op = 7 ∨ op = 8) (h : Rn w R bm gk gc gs gr gv who n cv cr cs late vc (.slice (some ⟨gk, 0, none⟩) N ck) vm vt nc cc p st) (hq : MQ w B Hq vc (.slice (some ⟨gk, 0, none⟩) N ck) vm vt LC LK S d) (hN : LK.length = N) (hx : LK[who]? = some ⟨k, .slice (some ⟨gr, 0, none⟩) 8 cr, .slice (some ⟨gv, 0, none⟩) 24 cv⟩) (hn8 : n ≤ 800) (hpn : p < n) (hB : B ≤ w.heap.size) (hce : ∀ V, Below w.heap.size w V → Calls Tryz.prog 160 #[.pointer (some ⟨R, 0, none⟩), .agg #[.int .i64 op, .int .i64 r, .int .i64 a, .int .i64 b, .int .i64 nn]] V fun e w' => e = .returned (.int .i64 cl) ∧ Below V.heap.size V w') (hcl : 0 ≤ cl ∧ cl < 24) (Q : World → World → Prop) (hT : ∀ V, Below w.heap.size w V → Calls Tryz.prog 162 #[.pointer (some ⟨R, 0, none⟩), .agg #[.int .i64 op, .int .i64 r, .int .i64 a, .int .i64 b, .int .i64 nn], .int .i64 cl] V fun e w' => e = .returned (.bool false) ∧ Q V w') :
  Calls Tryz.prog 158 #[.pointer (some ⟨R,0,none⟩),.agg #[.int .i64 op,.int .i64 r,.int .i64 a,.int .i64 b,.int .i64 nn]] w fun e w'=>e=.returned (.int .i64 3)∧∃ V,Below w.heap.size w V∧Q V w':=by
 obtain ⟨V,hV⟩:∃ V,w.alloc (.cells #[.int .i64 op,.int .i64 r,.int .i64 a,.int .i64 b,.int .i64 nn] 141)=V:=⟨_,rfl⟩
 have kv:Below w.heap.size w V:=by subst hV;exact (Below.refl _ _).alloc (Nat.le_refl _) _
 have zV:w.heap.size < V.heap.size:=by subst hV;simp
 have t0:V.cell? ⟨w.heap.size,0,none⟩=some (.int .i64 op):=by subst hV;simp [go_sem]
 have t1:V.cell? ⟨w.heap.size,1,none⟩=some (.int .i64 r):=by subst hV;simp [go_sem]
 have t2:V.cell? ⟨w.heap.size,2,none⟩=some (.int .i64 a):=by subst hV;simp [go_sem]
 have t3:V.cell? ⟨w.heap.size,3,none⟩=some (.int .i64 b):=by subst hV;simp [go_sem]
 have t4:V.cell? ⟨w.heap.size,4,none⟩=some (.int .i64 nn):=by subst hV;simp [go_sem]
 have bgk:B≤gk:=(World.ownsRow.lt hq.k.row gk rfl).1
 have CE:=hidM1 (hce V kv)
 have H:=hidM1 h
 have HQ:=hidM1 hq
 have HX:=hidM1 hx
 have KV:=hidM1 kv
 have HV:=hidM1 hV
 have T0:=hidM1 t0
 have T1:=hidM1 t1
 have T2:=hidM1 t2
 have T3:=hidM1 t3
 have T4:=hidM1 t4
 clear h hq hx kv hV t0 t1 t2 t3 t4 hce
 rcases hop with rfl | rfl | rfl
 all_goals
  go_enter Tryz.func158,Tryz.ntmps158
  go_wp2_with fail
  rw [HV.out]
  refine Calls.mono CE.out ?_
  rintro e w1 ⟨rfl,hb1⟩
  have s1:=hb1.size
  have KB:Hid (Below w.heap.size w w1):=KV.out.trans (hb1.mono (by omega))
  have t0:=(hb1.cell (p:=⟨w.heap.size,0,none⟩) zV).trans T0.out
  have t1:=(hb1.cell (p:=⟨w.heap.size,1,none⟩) zV).trans T1.out
  have t2:=(hb1.cell (p:=⟨w.heap.size,2,none⟩) zV).trans T2.out
  have t3:=(hb1.cell (p:=⟨w.heap.size,3,none⟩) zV).trans T3.out
  have t4:=(hb1.cell (p:=⟨w.heap.size,4,none⟩) zV).trans T4.out
  have zz:w.heap.size < w1.heap.size:=by omega
  clear hb1 s1
  go_wp2_with fail
  refine (isOneOf_is _ _ true _ (by unfold Plain.oneB;simp;omega)).mono ?_
  rintro e w2 ⟨rfl,hw2⟩
  rw [hw2]
  clear hw2 w2
  have ST:=hidM1 (hT w1 KB.out)
  clear hT
  go_wp2_with fail
  refine Calls.mono ST.out ?_
  rintro e w6 ⟨rfl,hb6⟩
  have HB6:=hidM1 hb6
  clear hb6
  go_wp2
  go_ret
  exact ⟨rfl,w1,KB.out,HB6.out⟩
set_option maxHeartbeats 8000000 in
theorem doMy {Hq : Nat → Prop} {w : World} {B R bm gk gc gs gr gv who n cv cr cs ck N p : Nat} {late : Int} {vc vm vt : Value} {nc cc : Nat} {st : Int} {LC : List CV} {LK : List KV} {S : List RS} {d : MD} {k : KD} (op r a b nn cl : Int) (hop : op = 5 ∨ op = 6 ∨ op = 7 ∨ op = 8) (h : Rn w R bm gk gc gs gr gv who n cv cr cs late vc (.slice (some ⟨gk, 0, none⟩) N ck) vm vt nc cc p st) (hq : MQ w B Hq vc (.slice (some ⟨gk, 0, none⟩) N ck) vm vt LC LK S d) (hN : LK.length = N) (hx : LK[who]? = some ⟨k, .slice (some ⟨gr, 0, none⟩) 8 cr, .slice (some ⟨gv, 0, none⟩) 24 cv⟩) (hn8 : n ≤ 800) (hpn : p < n) (hB : B ≤ w.heap.size) (hce : ∀ V, Below w.heap.size w V → Calls Tryz.prog 160 #[.pointer (some ⟨R, 0, none⟩), .agg #[.int .i64 op, .int .i64 r, .int .i64 a, .int .i64 b, .int .i64 nn]] V fun e w' => e = .returned (.int .i64 cl) ∧ Below V.heap.size V w') (hcl : 0 ≤ cl ∧ cl < 24) (d' : MD) (k' : KD) (P : Nat → Prop) (hT : ∀ V, Below w.heap.size w V → Calls Tryz.prog 162 #[.pointer (some ⟨R, 0, none⟩), .agg #[.int .i64 op, .int .i64 r, .int .i64 a, .int .i64 b, .int .i64 nn], .int .i64 cl] V fun e w' => e = .returned (.bool true) ∧ ∃ LK' S', MQ w' B Hq vc (.slice (some ⟨gk, 0, none⟩) N ck) vm vt LC LK' S' d' ∧ LK'[who]? = some ⟨k', .slice (some ⟨gr, 0, none⟩) 8 cr, .slice (some ⟨gv, 0, none⟩) 24 cv⟩ ∧ LK'.length = N ∧ Below B V w' ∧ ∀ b', b' < w.heap.size → ¬ P b' → w'.heap[b']? = V.heap[b']?) (nR : ¬ P R) (nM : ¬ P bm) (nK : ¬ P gk) (nC : ¬ P gc) :
  Calls Tryz.prog 158 #[.pointer (some ⟨R,0,none⟩),.agg #[.int .i64 op,.int .i64 r,.int .i64 a,.int .i64 b,.int .i64 nn]] w fun e w'=>e=.returned (.int .i64 0)∧∃ LK' S',MQ w' B Hq vc (.slice (some ⟨gk,0,none⟩) N ck) vm vt LC LK' S' (goM d' who k' n ((p:Int)+1))∧Below B w w'∧∀ b',b' < w.heap.size→¬ P b'→b'≠gk→w'.heap[b']? =w.heap[b']? :=by
 obtain ⟨V,hV⟩:∃ V,w.alloc (.cells #[.int .i64 op,.int .i64 r,.int .i64 a,.int .i64 b,.int .i64 nn] 141)=V:=⟨_,rfl⟩
 have kv:Below w.heap.size w V:=by subst hV;exact (Below.refl _ _).alloc (Nat.le_refl _) _
 have zV:w.heap.size < V.heap.size:=by subst hV;simp
 have t0:V.cell? ⟨w.heap.size,0,none⟩=some (.int .i64 op):=by subst hV;simp [go_sem]
 have t1:V.cell? ⟨w.heap.size,1,none⟩=some (.int .i64 r):=by subst hV;simp [go_sem]
 have t2:V.cell? ⟨w.heap.size,2,none⟩=some (.int .i64 a):=by subst hV;simp [go_sem]
 have t3:V.cell? ⟨w.heap.size,3,none⟩=some (.int .i64 b):=by subst hV;simp [go_sem]
 have t4:V.cell? ⟨w.heap.size,4,none⟩=some (.int .i64 nn):=by subst hV;simp [go_sem]
 have bgk:B≤gk:=(World.ownsRow.lt hq.k.row gk rfl).1
 have CE:=hidM1 (hce V kv)
 have H:=hidM1 h
 have HQ:=hidM1 hq
 have HX:=hidM1 hx
 have KV:=hidM1 kv
 have HV:=hidM1 hV
 have T0:=hidM1 t0
 have T1:=hidM1 t1
 have T2:=hidM1 t2
 have T3:=hidM1 t3
 have T4:=hidM1 t4
 clear h hq hx kv hV t0 t1 t2 t3 t4 hce
 rcases hop with rfl | rfl | rfl | rfl
 all_goals
  go_enter Tryz.func158,Tryz.ntmps158
  go_wp2_with fail
  rw [HV.out]
  refine Calls.mono CE.out ?_
  rintro e w1 ⟨rfl,hb1⟩
  have s1:=hb1.size
  have KB:Hid (Below w.heap.size w w1):=KV.out.trans (hb1.mono (by omega))
  have t0:=(hb1.cell (p:=⟨w.heap.size,0,none⟩) zV).trans T0.out
  have t1:=(hb1.cell (p:=⟨w.heap.size,1,none⟩) zV).trans T1.out
  have t2:=(hb1.cell (p:=⟨w.heap.size,2,none⟩) zV).trans T2.out
  have t3:=(hb1.cell (p:=⟨w.heap.size,3,none⟩) zV).trans T3.out
  have t4:=(hb1.cell (p:=⟨w.heap.size,4,none⟩) zV).trans T4.out
  have zz:w.heap.size < w1.heap.size:=by omega
  clear hb1 s1
  go_wp2_with fail
  refine (isOneOf_is _ _ true _ (by unfold Plain.oneB;simp;omega)).mono ?_
  rintro e w2 ⟨rfl,hw2⟩
  rw [hw2]
  clear hw2 w2
  have ST:=hidM1 (hT w1 KB.out)
  clear hT
  go_wp2_with fail
  refine Calls.mono ST.out ?_
  rintro e w5 ⟨rfl,LK5,S5,q5,x5,n5,b5,f5⟩
  have s5:=b5.size
  have f5':∀ b',b' < w.heap.size→¬ P b'→w5.heap[b']? =w.heap[b']? :=fun b' h1 h2=>(f5 b' h1 h2).trans (KB.out.block b' h1)
  have hh:=H.out
  have RU:=hh.frame (w':=w5) (by omega) (f5' R hh.zR nR) (f5' bm hh.zm nM) (f5' gk hh.zk nK) (f5' gc hh.zc nC)
  have HRU:=hidM1 RU
  have Q5:=hidM1 q5
  have X5:=hidM1 x5
  have N5:=hidM1 n5
  have B5:Hid (Below B w w5):=(KB.out.mono hB).trans b5
  have F5:=hidM1 f5'
  have w1_:IntKind.i64.wrap ((p:Int)+1)=(p:Int)+1:=Go.IntWalk.i64_in _ (by omega)
  have z5:w.heap.size≤w5.heap.size:=by omega
  clear q5 x5 n5 b5 f5 f5' hh t0 t1 t2 t3 t4 s5 zz
  obtain ⟨r0,r1,r2,r3,r4,m0,m1,m2,m3,fm,ec,c0,k0,k1,k3,fk,wc,zR,zm,zk,zc,zr⟩:=RU
  clear ec
  by_cases hin:(p:Int)+1 < (n:Int)
  ·have GT:=hidM1 (goTo_yes ((p:Int)+1) HRU.out (by omega) hin)
   go_wp2_with fail
   refine Calls.mono GT.out ?_
   rintro e w6 ⟨rfl,hb6⟩
   have HB6:=hidM1 hb6
   clear hb6
   go_wp2
   go_ret
   obtain ⟨LK2,q2⟩:=MQ.go (n:=n) Q5.out N5.out X5.out ((p:Int)+1) hin (F:=w6) (fun b hb=>HB6.out.block b hb) (by simpa using HB6.out.size)
   exact ⟨rfl,LK2,S5,q2,(B5.out.setCell (p:=⟨gk,who * 4,none⟩) bgk _).trans (HB6.out.mono (by omega)),fun b' h1 h2 h3=>(HB6.out.block b' (by omega)).trans ((Below.heap_setCell _ ⟨gk,_,none⟩ _ b' h3).trans (F5.out b' h1 h2))⟩
  ·have GT:=hidM1 (goTo_no ((p:Int)+1) HRU.out (by omega))
   go_wp2_with fail
   refine Calls.mono GT.out ?_
   rintro e w6 ⟨rfl,hb6⟩
   have HB6:=hidM1 hb6
   clear hb6
   go_wp2
   go_ret
   obtain ⟨LK2,q2⟩:=MQ.no (n:=n) Q5.out N5.out X5.out ((p:Int)+1) (by omega) (F:=w6) (fun b hb=>HB6.out.block b hb) (by simpa using HB6.out.size)
   exact ⟨rfl,LK2,S5,q2,(B5.out.setCell (p:=⟨gk,who * 4+3,none⟩) bgk _).trans (HB6.out.mono (by omega)),fun b' h1 h2 h3=>(HB6.out.block b' (by omega)).trans ((Below.heap_setCell _ ⟨gk,_,none⟩ _ b' h3).trans (F5.out b' h1 h2))⟩
end
end Go.Proofs.YtlbeploopclegaaGreat
