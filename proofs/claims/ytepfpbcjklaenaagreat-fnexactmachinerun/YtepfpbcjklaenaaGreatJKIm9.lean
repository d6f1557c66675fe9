/- A runner of the program goes for memory: a store, what is let go. No condition. -/
import Derived.Test.YtepfpbcjklaenaaGreatJG00
import Derived.Test.YtepfpbcjklaenaaGreatJG13
import Derived.Test.YtepfpbcjklaenaaGreatJG08
import Derived.Test.YtepfpbcjklaenaaGreatJG02
import Derived.Test.YtepfpbcjklaenaaGreatJG14
import Derived.Test.YtepfpbcjklaenaaGreatJG17
import Derived.Test.YtepfpbcjklaenaaGreatJKIm1
import Derived.Test.YtepfpbcjklaenaaGreatJG04
import Derived.Test.YtepfpbcjklaenaaGreatJG18
namespace Go.Proofs.YtepfpbcjklaenaaGreat
set_option linter.unusedSimpArgs false
set_option linter.unusedVariables false
set_option maxRecDepth 100000
open Go.RowKit
set_option maxHeartbeats 1000000 in
theorem touch6y {Hq : Nat → Prop} {w : World} {B R bm gk gc gs gr gv who nn cv cr cs gO cO : Nat} {late : Int} {vc vk vt : Value} {nc cc : Nat} {pc st : Int} {LC : List CV} {LK : List KV} {S : List RS} {d : MD} {k : KD} (c b' : Nat) (r0_ a n vb : Int) (lr : List WD) (r : RS) (h : Rn w R bm gk gc gs gr gv who nn cv cr cs late vc vk (.slice (some ⟨gO, 0, none⟩) d.mem.length cO) vt nc cc pc st) (hq : MQ w B Hq vc vk (.slice (some ⟨gO, 0, none⟩) d.mem.length cO) vt LC LK S d) (hx : LK[who]? = some ⟨k, .slice (some ⟨gr, 0, none⟩) 8 cr, .slice (some ⟨gv, 0, none⟩) 24 cv⟩) (hvl : k.vw.length = 24) (hmem : memB d.mem = true) (hc : c < 24) (hb : b' < 8) (lb : w.cell? ⟨gr, b', none⟩ = some (.int .i64 vb)) (hlr : d.mem[c]? = some lr) (hr : S[c]? = some r) (hroom : lr.length < 4000) (hB : B ≤ w.heap.size) :
  Calls Tryz.prog 111 #[.pointer (some ⟨R,0,none⟩),.agg #[.int .i64 6,.int .i64 r0_,.int .i64 a,.int .i64 b',.int .i64 n],.int .i64 c] w fun e w'=>e=.returned (.bool true)∧∃ r',MQ w' B Hq vc vk (.slice (some ⟨gO,0,none⟩) d.mem.length cO) vt LC (LK.set who ⟨{ k with vw:=k.vw.set c (lr.length:Int) },.slice (some ⟨gr,0,none⟩) 8 cr,.slice (some ⟨gv,0,none⟩) 24 cv⟩) (S.set c r') { putK d who { k with vw:=k.vw.set c (lr.length:Int) } with mem:=d.mem.set c (lr++[⟨vb,toldL k.vw c lr.length false⟩]) }∧Below B w w'∧∀ b',b' < w.heap.size→b'≠gv→b'≠gO→r.val.ownBlock≠some b'→w'.heap[b']? =w.heap[b']? :=by
 obtain ⟨V,hV⟩:∃ V,w.alloc (.cells #[.int .i64 6,.int .i64 r0_,.int .i64 a,.int .i64 b',.int .i64 n] 99)=V:=⟨_,rfl⟩
 have kv:Below w.heap.size w V:=by subst hV;exact (Below.refl _ _).alloc (Nat.le_refl _) _
 have KV:=hidM1 kv
 have zV:=kv.size
 have QV:=hq.keep (w':=V) (fun b _ h1=>kv.block b h1) zV
 have RV:=h.below kv
 have WR:=hidM1 (write_yes c lr r vb false RV QV hx hvl hmem hc hlr hr hroom)
 obtain ⟨r0,r1,r2,r3,r4,m0,m1,m2,m3,fm,ec,c0,k0,k1,k3,fk,wc,zR,zm,zk,zc,zr⟩:=h
 have bb0:(0:Int)≤(b':Int):=by omega
 have bb1:(b':Int) < 8:=by omega
 have HV:=hidM1 hV
 clear hq hx hvl hmem hlr hr QV RV kv hV
 go_enter Tryz.func111,Tryz.ntmps111
 go_wp2_with fail
 rw [HV.out]
 refine Calls.mono WR.out ?_
 rintro e w5 ⟨rfl,r',q5,b5,f5⟩
 have Q5:=hidM1 q5
 have B5:=hidM1 b5
 have F5:=hidM1 f5
 clear q5 b5 f5
 go_wp2
 go_ret
 exact ⟨rfl,r',Q5.out,(KV.out.mono hB).trans B5.out,fun b' h1 h2 h3 h4=>(F5.out b' (by omega) h2 h3 h4).trans (KV.out.block b' h1)⟩
set_option maxHeartbeats 1000000 in
theorem touch6n {Hq : Nat → Prop} {w : World} {B R bm gk gc gs gr gv who nn cv cr cs gO cO : Nat} {late : Int} {vc vk vt : Value} {nc cc : Nat} {pc st : Int} {LC : List CV} {LK : List KV} {S : List RS} {d : MD} {k : KD} (c b' : Nat) (r0_ a n vb : Int) (lr : List WD) (r : RS) (h : Rn w R bm gk gc gs gr gv who nn cv cr cs late vc vk (.slice (some ⟨gO, 0, none⟩) d.mem.length cO) vt nc cc pc st) (hq : MQ w B Hq vc vk (.slice (some ⟨gO, 0, none⟩) d.mem.length cO) vt LC LK S d) (hx : LK[who]? = some ⟨k, .slice (some ⟨gr, 0, none⟩) 8 cr, .slice (some ⟨gv, 0, none⟩) 24 cv⟩) (hvl : k.vw.length = 24) (hmem : memB d.mem = true) (hc : c < 24) (hb : b' < 8) (lb : w.cell? ⟨gr, b', none⟩ = some (.int .i64 vb)) (hlr : d.mem[c]? = some lr) (hr : S[c]? = some r) (hroom : ¬ lr.length < 4000) (hB : B ≤ w.heap.size) :
  Calls Tryz.prog 111 #[.pointer (some ⟨R,0,none⟩),.agg #[.int .i64 6,.int .i64 r0_,.int .i64 a,.int .i64 b',.int .i64 n],.int .i64 c] w fun e w'=>e=.returned (.bool false)∧Below w.heap.size w w':=by
 obtain ⟨V,hV⟩:∃ V,w.alloc (.cells #[.int .i64 6,.int .i64 r0_,.int .i64 a,.int .i64 b',.int .i64 n] 99)=V:=⟨_,rfl⟩
 have kv:Below w.heap.size w V:=by subst hV;exact (Below.refl _ _).alloc (Nat.le_refl _) _
 have KV:=hidM1 kv
 have zV:=kv.size
 have QV:=hq.keep (w':=V) (fun b _ h1=>kv.block b h1) zV
 have RV:=h.below kv
 have h24:=(memB_at hmem (i:=0) (by omega)).1
 have lO:=QV.m.cellc rfl hr hlr
 have WR:=hidM1 (write_no (c:=c) vb false RV lO (World.ownsRow.lt QV.m.row gO rfl).2 (by omega) hroom)
 clear lO h24
 obtain ⟨r0,r1,r2,r3,r4,m0,m1,m2,m3,fm,ec,c0,k0,k1,k3,fk,wc,zR,zm,zk,zc,zr⟩:=h
 have bb0:(0:Int)≤(b':Int):=by omega
 have bb1:(b':Int) < 8:=by omega
 have HV:=hidM1 hV
 clear hq hx hvl hmem hlr hr QV RV kv hV
 go_enter Tryz.func111,Tryz.ntmps111
 go_wp2_with fail
 rw [HV.out]
 refine Calls.mono WR.out ?_
 rintro e w5 ⟨rfl,b5⟩
 have B5:=hidM1 b5
 clear b5
 go_wp2
 go_ret
 exact ⟨rfl,KV.out.trans (B5.out.mono zV)⟩
set_option maxHeartbeats 1000000 in
theorem touch7y {Hq : Nat → Prop} {w : World} {B R bm gk gc gs gr gv who nn cv cr cs gO cO : Nat} {late : Int} {vc vk vt : Value} {nc cc : Nat} {pc st : Int} {LC : List CV} {LK : List KV} {S : List RS} {d : MD} {k : KD} (c b' : Nat) (r0_ a n vb : Int) (lr : List WD) (r : RS) (h : Rn w R bm gk gc gs gr gv who nn cv cr cs late vc vk (.slice (some ⟨gO, 0, none⟩) d.mem.length cO) vt nc cc pc st) (hq : MQ w B Hq vc vk (.slice (some ⟨gO, 0, none⟩) d.mem.length cO) vt LC LK S d) (hx : LK[who]? = some ⟨k, .slice (some ⟨gr, 0, none⟩) 8 cr, .slice (some ⟨gv, 0, none⟩) 24 cv⟩) (hvl : k.vw.length = 24) (hmem : memB d.mem = true) (hc : c < 24) (hb : b' < 8) (lb : w.cell? ⟨gr, b', none⟩ = some (.int .i64 vb)) (hlr : d.mem[c]? = some lr) (hr : S[c]? = some r) (hroom : lr.length < 4000) (hB : B ≤ w.heap.size) :
  Calls Tryz.prog 111 #[.pointer (some ⟨R,0,none⟩),.agg #[.int .i64 7,.int .i64 r0_,.int .i64 a,.int .i64 b',.int .i64 n],.int .i64 c] w fun e w'=>e=.returned (.bool true)∧∃ r',MQ w' B Hq vc vk (.slice (some ⟨gO,0,none⟩) d.mem.length cO) vt LC (LK.set who ⟨{ k with vw:=k.vw.set c (lr.length:Int) },.slice (some ⟨gr,0,none⟩) 8 cr,.slice (some ⟨gv,0,none⟩) 24 cv⟩) (S.set c r') { putK d who { k with vw:=k.vw.set c (lr.length:Int) } with mem:=d.mem.set c (lr++[⟨vb,toldL k.vw c lr.length true⟩]) }∧Below B w w'∧∀ b',b' < w.heap.size→b'≠gv→b'≠gO→r.val.ownBlock≠some b'→w'.heap[b']? =w.heap[b']? :=by
 obtain ⟨V,hV⟩:∃ V,w.alloc (.cells #[.int .i64 7,.int .i64 r0_,.int .i64 a,.int .i64 b',.int .i64 n] 99)=V:=⟨_,rfl⟩
 have kv:Below w.heap.size w V:=by subst hV;exact (Below.refl _ _).alloc (Nat.le_refl _) _
 have KV:=hidM1 kv
 have zV:=kv.size
 have QV:=hq.keep (w':=V) (fun b _ h1=>kv.block b h1) zV
 have RV:=h.below kv
 have WR:=hidM1 (write_yes c lr r vb true RV QV hx hvl hmem hc hlr hr hroom)
 obtain ⟨r0,r1,r2,r3,r4,m0,m1,m2,m3,fm,ec,c0,k0,k1,k3,fk,wc,zR,zm,zk,zc,zr⟩:=h
 have bb0:(0:Int)≤(b':Int):=by omega
 have bb1:(b':Int) < 8:=by omega
 have HV:=hidM1 hV
 clear hq hx hvl hmem hlr hr QV RV kv hV
 go_enter Tryz.func111,Tryz.ntmps111
 go_wp2_with fail
 rw [HV.out]
 refine Calls.mono WR.out ?_
 rintro e w5 ⟨rfl,r',q5,b5,f5⟩
 have Q5:=hidM1 q5
 have B5:=hidM1 b5
 have F5:=hidM1 f5
 clear q5 b5 f5
 go_wp2
 go_ret
 exact ⟨rfl,r',Q5.out,(KV.out.mono hB).trans B5.out,fun b' h1 h2 h3 h4=>(F5.out b' (by omega) h2 h3 h4).trans (KV.out.block b' h1)⟩
set_option maxHeartbeats 1000000 in
theorem touch7n {Hq : Nat → Prop} {w : World} {B R bm gk gc gs gr gv who nn cv cr cs gO cO : Nat} {late : Int} {vc vk vt : Value} {nc cc : Nat} {pc st : Int} {LC : List CV} {LK : List KV} {S : List RS} {d : MD} {k : KD} (c b' : Nat) (r0_ a n vb : Int) (lr : List WD) (r : RS) (h : Rn w R bm gk gc gs gr gv who nn cv cr cs late vc vk (.slice (some ⟨gO, 0, none⟩) d.mem.length cO) vt nc cc pc st) (hq : MQ w B Hq vc vk (.slice (some ⟨gO, 0, none⟩) d.mem.length cO) vt LC LK S d) (hx : LK[who]? = some ⟨k, .slice (some ⟨gr, 0, none⟩) 8 cr, .slice (some ⟨gv, 0, none⟩) 24 cv⟩) (hvl : k.vw.length = 24) (hmem : memB d.mem = true) (hc : c < 24) (hb : b' < 8) (lb : w.cell? ⟨gr, b', none⟩ = some (.int .i64 vb)) (hlr : d.mem[c]? = some lr) (hr : S[c]? = some r) (hroom : ¬ lr.length < 4000) (hB : B ≤ w.heap.size) :
  Calls Tryz.prog 111 #[.pointer (some ⟨R,0,none⟩),.agg #[.int .i64 7,.int .i64 r0_,.int .i64 a,.int .i64 b',.int .i64 n],.int .i64 c] w fun e w'=>e=.returned (.bool false)∧Below w.heap.size w w':=by
 obtain ⟨V,hV⟩:∃ V,w.alloc (.cells #[.int .i64 7,.int .i64 r0_,.int .i64 a,.int .i64 b',.int .i64 n] 99)=V:=⟨_,rfl⟩
 have kv:Below w.heap.size w V:=by subst hV;exact (Below.refl _ _).alloc (Nat.le_refl _) _
 have KV:=hidM1 kv
 have zV:=kv.size
 have QV:=hq.keep (w':=V) (fun b _ h1=>kv.block b h1) zV
 have RV:=h.below kv
 have h24:=(memB_at hmem (i:=0) (by omega)).1
 have lO:=QV.m.cellc rfl hr hlr
 have WR:=hidM1 (write_no (c:=c) vb true RV lO (World.ownsRow.lt QV.m.row gO rfl).2 (by omega) hroom)
 clear lO h24
 obtain ⟨r0,r1,r2,r3,r4,m0,m1,m2,m3,fm,ec,c0,k0,k1,k3,fk,wc,zR,zm,zk,zc,zr⟩:=h
 have bb0:(0:Int)≤(b':Int):=by omega
 have bb1:(b':Int) < 8:=by omega
 have HV:=hidM1 hV
 clear hq hx hvl hmem hlr hr QV RV kv hV
 go_enter Tryz.func111,Tryz.ntmps111
 go_wp2_with fail
 rw [HV.out]
 refine Calls.mono WR.out ?_
 rintro e w5 ⟨rfl,b5⟩
 have B5:=hidM1 b5
 clear b5
 go_wp2
 go_ret
 exact ⟨rfl,KV.out.trans (B5.out.mono zV)⟩
end Go.Proofs.YtepfpbcjklaenaaGreat
