/- A runner of the program prints. No condition. A machine whose core's view was written where it lies, its memory stored into. No condition. A runner of the program writes into memory. No condition. A runner of the program loads. Condition: late is a number of 64 bits. A runner of the program goes for memory: a load. Condition: late is a number of 64 bits. A runner of the program goes for memory: a store, what is let go. No condition. -/
import Derived.Test.YtlbeploopclegaaGreatQG00
import Derived.Test.YtlbeploopclegaaGreatQG02
import Derived.Test.YtlbeploopclegaaGreatQG12
import Derived.Test.YtlbeploopclegaaGreatQG13
import Derived.Test.YtlbeploopclegaaGreatQG01
import Derived.Test.YtlbeploopclegaaGreatQG05
import Derived.Test.YtlbeploopclegaaGreatQG11
import Derived.Test.YtlbeploopclegaaGreatQG10
import Derived.Test.YtlbeploopclegaaGreatQG04
import Derived.Test.YtlbeploopclegaaGreatQMemStore
import Derived.Test.YtlbeploopclegaaGreatQG06
import Derived.Test.YtlbeploopclegaaGreatQG08
namespace Go.Proofs.YtlbeploopclegaaGreat
section
set_option linter.unusedSimpArgs false
set_option linter.unusedVariables false
set_option maxRecDepth 100000
open Go.RowKit
theorem print_no {w : World} {R bm gk gc gs gr gv who nn cv cr cs : Nat} {late : Int} {vc vk vm : Value} {sT : Option Addr} {nT cT nc cc : Nat} {pc st : Int} (v : Int) (h : Rn w R bm gk gc gs gr gv who nn cv cr cs late vc vk vm (.slice sT nT cT) nc cc pc st) (hf : 4000 ≤ nT) :
  Calls Tryz.prog 163 #[.pointer (some ⟨R,0,none⟩),.int .i64 v] w fun e w'=>e=.returned (.bool false)∧w'=w:=by
 obtain ⟨r0,r1,r2,r3,r4,m0,m1,m2,m3,fm,ec,c0,k0,k1,k3,fk,wc,zR,zm,zk,zc,zr⟩:=h
 have hfi:(4000:Int)≤(nT:Int):=by omega
 go_enter Tryz.func163,Tryz.ntmps163
 go_wp2
 go_ret
 exact ⟨rfl,rfl⟩
set_option maxHeartbeats 1000000 in
theorem print_yes {w : World} {B R bm gk gc gs gr gv who nn cv cr cs : Nat} {late : Int} {vc vk vm : Value} {sT : Option Addr} {cT nc cc : Nat} {pc st : Int} {tr : List ND} (v : Int) (h : Rn w R bm gk gc gs gr gv who nn cv cr cs late vc vk vm (.slice sT tr.length cT) nc cc pc st) (hT : OwnD w B (.slice sT tr.length cT) tr) (hf : tr.length < 4000) (hB : B ≤ w.heap.size) (nR : (Value.slice sT tr.length cT).ownBlock ≠ some R) (nM : (Value.slice sT tr.length cT).ownBlock ≠ some bm) :
  Calls Tryz.prog 163 #[.pointer (some ⟨R,0,none⟩),.int .i64 v] w fun e w'=>e=.returned (.bool true)∧∃ g6 c6 w6,w6.ownsRow B 105 2 (.slice (some ⟨g6,0,none⟩) (tr.length+1) c6) (tr.length+1) (flatN tr++[.int .i64 who,.int .i64 v])∧(w.drew.alloc (.cells #[.int .i64 who,.int .i64 v] 105)).grownBy w6 (Value.slice sT tr.length cT).ownBlock∧((Value.slice sT tr.length cT).ownBlock=some g6∨(w.drew.alloc (.cells #[.int .i64 who,.int .i64 v] 105)).heap.size≤g6)∧w'=w6.setCell ⟨bm,5,none⟩ (.slice (some ⟨g6,0,none⟩) (tr.length+1) c6):=by
 obtain ⟨r0,r1,r2,r3,r4,m0,m1,m2,m3,fm,ec,c0,k0,k1,k3,fk,wc,zR,zm,zk,zc,zr⟩:=h
 have hfi:¬ (4000:Int)≤(tr.length:Int):=by omega
 have hfj:(tr.length:Int) < 4000:=by omega
 have HT:=hidM1 hT
 have OT:Hid (OwnD (w.drew.alloc (.cells #[.int .i64 who,.int .i64 v] 105)) B (.slice sT tr.length cT) tr):=ownKeep' HT.out (fun q hq=>by have:=(World.ownsRow.lt HT.out _ hq).2;exact Below.heap_alloc w.drew _ _ this)
 go_enter Tryz.func163,Tryz.ntmps163
 go_wp2_with fail
 have hne:=extN_ne w (Value.slice sT tr.length cT).ownBlock
 have u0:=ExtN.fit r2 zR nR
 have u1:=ExtN.fit m3 zm nM
 have u2:=ExtN.fit r3 zR nR
 refine regionMix w (CN w (Value.slice sT tr.length cT).ownBlock) 18 20 (by kernel_rfl) (by kernel_rfl) (fun _ _ d _ _ h=>by cases d<;>exact h) (CN.drew _ _) ?_
 unfold CN
 dsimp only [List.take,List.drop]
 repeat (go_big_quiet_step (fail))
 refine wpQuiet_nil ?_
 clear hne u0 u1 u2
 unfold wpListC
 go_wp2
 refine And.intro (fun _ hc=>CN.below hc ((Below.refl _ _).alloc (Nat.le_refl _) _)) ?_
 unfold wpListC
 refine app_note rfl _ _ rfl (w.drew.alloc (.cells #[.int .i64 who,.int .i64 v] 105)) B (.slice sT tr.length cT) tr.length (flatN tr) rfl OT.out w.heap.size (.int .i64 who) (.int .i64 v) rfl rfl rfl (by simp [go_sem]) (by simp [go_sem]) (by omega) (by simp;show B≤w.heap.size+1;omega) ?_
 intro g6 c6 w6 ho6 hg6 hn6 hl6
 refine And.intro (fun _ hc=>CN.grown hc hg6) ?_
 refine listC_late _ _ _ _ (by decide) ?_
 have kb:w6.heap[bm]? =w.heap[bm]? :=(hg6.block bm (by simp;show bm < w.heap.size+1;omega) (fun e=>nM e.symm)).trans (Below.heap_alloc w.drew _ _ zm)
 have c3:=(World.cell?_of_block (w:=w) (a:=⟨bm,5,none⟩) kb).trans m3
 have f3:∀ j,w6.frozen? ⟨bm,j,none⟩=false:=fun j=>(World.frozen?_of_block (w:=w) (a:=⟨bm,j,none⟩) kb).trans (fm j)
 have HO:=hidM1 ho6
 have HG:=hidM1 hg6
 have HNN:=hidM1 hn6
 clear ho6 hg6 hn6 kb
 go_wp2
 go_ret
 exact ⟨rfl,g6,c6,w6,HO.out,HG.out,HNN.out,rfl⟩
end
section
set_option linter.unusedSimpArgs false
set_option linter.unusedVariables false
set_option maxRecDepth 100000
open Go.RowKit
theorem MQ0.view {w w' : World} {B g : Nat} {vc vk vm vt : Value} {LC : List CV} {LK : List KV} {S S' : List RS} {d : MD} {i : Nat} {x : KV} {l' : List Int} {m' : List (List WD)} (h : MQ0 w B vc vk vm vt LC LK S d) (hx : LK[i]? = some x) (hg : x.v.ownBlock = some g) (ho : OwnN w' B x.v l') (hm : OW w' B vm S' m')
  (hf:∀ {e:TypeId} {size n:Nat} {u:Value} {xs:List Value},w.ownsRow B e size u n xs→e≠99→e≠97→u.ownBlock≠some g→∀ q,u.ownBlock=some q→w'.heap[q]? =w.heap[q]?)
  (hp:∀ a∈mAs S',(∃ a'∈mAs S,a'.block=a.block)∨w.heap.size≤a.block):
  MQ0 w' B vc vk vm vt LC (LK.set i ⟨{ x.d with vw:=l' },x.r,x.v⟩) S' { putK d i { x.d with vw:=l' } with mem:=m' }:=by
 have hv:=(h.k.inn i x hx).2
 have ng:∀ {e:TypeId} {size n:Nat} {u:Value} {xs:List Value},w.ownsRow B e size u n xs→e≠3→u.ownBlock≠some g:=fun hu he e=>ownType' hu hv he e hg
 have kc:∀ {e:TypeId} {size n:Nat} {u:Value} {xs:List Value},w.ownsRow B e size u n xs→e≠3→e≠99→e≠97→w'.ownsRow B e size u n xs:=fun hu h0 h1 h2=>ownKeep' hu (hf hu h1 h2 (ng hu h0))
 have ki:∀ {u:Value} {l:List Int},OwnN w B u l→u.ownBlock≠some g→OwnN w' B u l:=fun hu hn=>ownKeep' hu (hf hu (by decide) (by decide) hn)
 refine ⟨⟨kc h.c.row (by decide) (by decide) (by decide),fun j y hy=>kc (h.c.inn j y hy) (by decide) (by decide) (by decide),h.c.sep⟩,h.ec,?_,?_,hm,kc h.t (by decide) (by decide) (by decide),fun j z q hz hq a ha e=>?_⟩
 ·refine h.k.turn hx rfl rfl ?_ ⟨ki (h.k.inn i x hx).1 (fun e=>h.k.two i x g hx e hg),ho⟩ (fun j z hj hz=>?_)
  ·have r:=kc h.k.row (by decide) (by decide) (by decide)
   rw [flatK_same LK i x ⟨{ x.d with vw:=l' },x.r,x.v⟩ hx rfl rfl rfl rfl]
   exact r
  ·have q:=h.k.sep i j x z g hx hz (Ne.symm hj) (.inr hg)
   exact ⟨ki (h.k.inn j z hz).1 (fun e=>q (.inl e)),ki (h.k.inn j z hz).2 (fun e=>q (.inr e))⟩
 ·show (LK.set i _).map KV.d=d.cores.set i _
  rw [List.map_set,h.ek]
 ·rcases setKV_at hz with ⟨rfl,rfl,-⟩ | ⟨hj,hz⟩
  ·rcases hp a ha with ⟨a',ha',e'⟩ | hlt
   ·exact h.sk _ x q hx hq a' ha' (e'.trans e)
   ·rcases hq with hq | hq
    ·have:=(World.ownsRow.lt (h.k.inn _ x hx).1 _ hq).2;omega
    ·have:=(World.ownsRow.lt (h.k.inn _ x hx).2 _ hq).2;omega
  ·rcases hp a ha with ⟨a',ha',e'⟩ | hlt
   ·exact h.sk j z q hz hq a' ha' (e'.trans e)
   ·rcases hq with hq | hq
    ·have:=(World.ownsRow.lt (h.k.inn j z hz).1 _ hq).2;omega
    ·have:=(World.ownsRow.lt (h.k.inn j z hz).2 _ hq).2;omega
theorem MQ.view {Hq : Nat → Prop} {w w' : World} {B g : Nat} {vc vk vm vt : Value} {LC : List CV} {LK : List KV} {S S' : List RS} {d : MD} {i : Nat} {x : KV} {l' : List Int} {m' : List (List WD)} (h : MQ w B Hq vc vk vm vt LC LK S d) (hx : LK[i]? = some x) (hg : x.v.ownBlock = some g) (ho : OwnN w' B x.v l') (hm : OW w' B vm S' m')
  (hf:∀ {e:TypeId} {size n:Nat} {u:Value} {xs:List Value},w.ownsRow B e size u n xs→e≠99→e≠97→u.ownBlock≠some g→∀ q,u.ownBlock=some q→w'.heap[q]? =w.heap[q]?)
  (hp:∀ a∈mAs S',(∃ a'∈mAs S,a'.block=a.block)∨w.heap.size≤a.block) (hz:w.heap.size≤w'.heap.size):
  MQ w' B Hq vc vk vm vt LC (LK.set i ⟨{ x.d with vw:=l' },x.r,x.v⟩) S' { putK d i { x.d with vw:=l' } with mem:=m' }:=⟨h.toMQ0.view hx hg ho hm hf hp,⟨h.hh.c,h.hh.ci,h.hh.k,(h.hh.same hx _).ki,h.hh.m,fun a ha=>(hp a ha).elim (fun ⟨a',h1,h2⟩=>h2▸h.hh.mi a' h1) (fun e=>h.hn _ e),h.hh.t⟩,fun q hq=>h.hn q (Nat.le_trans hz hq)⟩
/- a load of the program: the view alone is written -/
theorem MQ.viewL {Hq : Nat → Prop} {w w' : World} {B g : Nat} {vc vk vm vt : Value} {LC : List CV} {LK : List KV} {S : List RS} {d : MD} {i : Nat} {x : KV} {l' : List Int} (h : MQ w B Hq vc vk vm vt LC LK S d) (hx : LK[i]? = some x) (hg : x.v.ownBlock = some g) (ho : OwnN w' B x.v l') (he : Exc g (g + 1) w w') :
  MQ w' B Hq vc vk vm vt LC (LK.set i ⟨{ x.d with vw:=l' },x.r,x.v⟩) S (putK d i { x.d with vw:=l' }):=by
 have hv:=(h.k.inn i x hx).2
 have kb:∀ b,b < w.heap.size→b≠g→w'.heap[b]? =w.heap[b]? :=fun b h1 h2=>he.blk b h1 (by omega)
 have hm:OW w' B vm S d.mem:=by
  refine ⟨h.m.n,ownKeep' h.m.row (fun k hk=>kb k (World.ownsRow.lt h.m.row _ hk).2 (fun e=>ownType' h.m.row hv (by decide) hk (by rw [hg,e]))),fun i' r l hr hl=>?_,h.m.d⟩
  have q:=h.m.r i' r l hr hl
  refine q.kept (fun k hk=>kb k (World.ownsRow.lt q.own _ hk).2 (fun e=>ownType' q.own hv (by decide) hk (by rw [hg,e]))) (fun a ha=>kb _ (q.blk ha).2 (fun e=>?_)) he.size
  exact h.sk i x g hx (.inr hg) a (mem_mAs.2 ⟨r,List.mem_of_getElem? hr,mem_rAs.2 (.inr (mem_vsA.1 ha))⟩) e
 have q:=MQ.view (m':=d.mem) h hx hg ho hm (fun hu _ _ hn q hq=>kb q (World.ownsRow.lt hu _ hq).2 (fun e=>hn (by rw [hq,e]))) (fun a ha=>.inl ⟨a,ha,rfl⟩) he.size
 exact q
theorem hasRoom_c {w : World} {gO n cO c m cc : Nat} {s : Option Addr} (b : Bool) (hc : w.cell? ⟨gO, c, none⟩ = some (.slice s m cc)) (hz : gO < w.heap.size) (hn : c < n) (hb : decide (m < 4000) = b) :
  Calls Tryz.prog 169 #[.agg #[.slice (some ⟨gO,0,none⟩) n cO],.int .i64 c] w fun e w'=>e=.returned (.bool b)∧Below w.heap.size w w':=by
 have b0:(0:Int)≤(c:Int):=by omega
 have b1:(c:Int) < (n:Int):=by omega
 have z1:gO < w.heap.size+1:=by omega
 subst hb
 by_cases h:m < 4000
 all_goals
  have hi:((m:Int) < 4000)=(m < 4000):=by simp;omega
  go_enter Tryz.func169,Tryz.ntmps169
  go_wp2
  go_ret
  exact ⟨by simp [h],(Below.refl _ _).alloc (Nat.le_refl _) _⟩
end
section
set_option linter.unusedSimpArgs false
set_option linter.unusedVariables false
set_option maxRecDepth 100000
open Go.RowKit
theorem write_no {w : World} {R bm gk gc gs gr gv who nn cv cr cs gO nO cO c m cc1 : Nat} {s : Option Addr} {late : Int} {vc vk vt : Value} {nc cc : Nat} {pc st : Int} (z : Int) (b : Bool) (h : Rn w R bm gk gc gs gr gv who nn cv cr cs late vc vk (.slice (some ⟨gO, 0, none⟩) nO cO) vt nc cc pc st) (hc : w.cell? ⟨gO, c, none⟩ = some (.slice s m cc1)) (hz : gO < w.heap.size) (hn : c < nO) (hf : ¬ m < 4000) :
  Calls Tryz.prog 166 #[.pointer (some ⟨R,0,none⟩),.int .i64 c,.int .i64 z,.bool b] w fun e w'=>e=.returned (.bool false)∧Below w.heap.size w w':=by
 obtain ⟨r0,r1,r2,r3,r4,m0,m1,m2,m3,fm,ec,c0,k0,k1,k3,fk,wc,zR,zm,zk,zc,zr⟩:=h
 have HR:=hidM1 (hasRoom_c (n:=nO) (cO:=cO) false hc hz hn (by simp;omega))
 go_enter Tryz.func166,Tryz.ntmps166
 go_wp2_with (go_at_call 169;refine Calls.mono HR.out ?_;rintro e w1 ⟨rfl,hb1⟩;have HB1:=hidM1 hb1;clear hb1)
 go_ret
 exact ⟨rfl,HB1.out⟩
set_option maxHeartbeats 2000000 in
theorem write_yes {Hq : Nat → Prop} {w : World} {B R bm gk gc gs gr gv who nn cv cr cs gO cO : Nat} {late : Int} {vc vk vt rv : Value} {nc cc : Nat} {pc st : Int} {LC : List CV} {LK : List KV} {S : List RS} {d : MD} {k : KD} (c : Nat) (lr : List WD) (r : RS) (z : Int) (b : Bool) (h : Rn w R bm gk gc gs gr gv who nn cv cr cs late vc vk (.slice (some ⟨gO, 0, none⟩) d.mem.length cO) vt nc cc pc st) (hq : MQ w B Hq vc vk (.slice (some ⟨gO, 0, none⟩) d.mem.length cO) vt LC LK S d) (hx : LK[who]? = some ⟨k, rv, .slice (some ⟨gv, 0, none⟩) 24 cv⟩) (hvl : k.vw.length = 24) (hmem : memB d.mem = true) (hc : c < 24) (hlr : d.mem[c]? = some lr) (hr : S[c]? = some r) (hroom : lr.length < 4000) :
  Calls Tryz.prog 166 #[.pointer (some ⟨R,0,none⟩),.int .i64 c,.int .i64 z,.bool b] w fun e w'=>e=.returned (.bool true)∧∃ r',MQ w' B Hq vc vk (.slice (some ⟨gO,0,none⟩) d.mem.length cO) vt LC (LK.set who ⟨{ k with vw:=k.vw.set c (lr.length:Int) },rv,.slice (some ⟨gv,0,none⟩) 24 cv⟩) (S.set c r') { putK d who { k with vw:=k.vw.set c (lr.length:Int) } with mem:=d.mem.set c (lr++[⟨z,toldL k.vw c lr.length b⟩]) }∧Below B w w'∧∀ b',b' < w.heap.size→b'≠gv→b'≠gO→r.val.ownBlock≠some b'→w'.heap[b']? =w.heap[b']? :=by
 have H:=hidM1 h
 have HQ:=hidM1 hq
 have HX:=hidM1 hx
 have HVL:=hidM1 hvl
 have HME:=hidM1 hmem
 have HLR:=hidM1 hlr
 have HRR:=hidM1 hr
 have h24:=(memB_at hmem (i:=0) (by omega)).1
 have H24:=hidM1 h24
 have lO:=hq.m.cellc rfl hr hlr
 have zO:gO < w.heap.size:=(World.ownsRow.lt hq.m.row gO rfl).2
 have HR:=hidM1 (hasRoom_c (n:=d.mem.length) (cO:=cO) true lO zO (by omega) (by simp;omega))
 obtain ⟨r0,r1,r2,r3,r4,m0,m1,m2,m3,fm,ec,c0,k0,k1,k3,fk,wc,zR,zm,zk,zc,zr⟩:=h
 clear hq hx hvl hmem hlr hr h24 lO
 go_enter Tryz.func166,Tryz.ntmps166
 go_wp2_with (go_at_call 169;refine Calls.mono HR.out ?_;rintro e w1 ⟨rfl,hb1⟩;have HB1:=hidM1 hb1;clear hb1)
 have hb1:=HB1.out
 have z1:=hb1.size
 have hne:=ext_ne w1
 have u0:=Ext.fit ((hb1.cell (p:=⟨R,0,none⟩) zR).trans r0) (by omega)
 have u1:=Ext.fit ((hb1.cell (p:=⟨R,2,none⟩) zR).trans r2) (by omega)
 have u2:=Ext.fit ((hb1.cell (p:=⟨bm,4,none⟩) zm).trans m2) (by omega)
 refine regionSuf w1 14 (by kernel_rfl) (by kernel_rfl) (by kernel_rfl) (by kernel_rfl) (by kernel_rfl) ?_
 dsimp only [List.take,List.drop]
 repeat (go_big_quiet_step (fail))
 refine wpQuiet_nil ?_
 rintro w3 ⟨X3,rfl⟩
 obtain ⟨V,hV⟩:∃ V,X3.w=V:=⟨_,rfl⟩
 have hb3:=X3.b
 rw [hV] at hb3 ⊢
 have KV:Hid (Below w.heap.size w V):=hb1.trans (hb3.mono z1)
 have zV:=KV.out.size
 have QV:=hidM1 (HQ.out.keep (w':=V) (fun b _ h1=>KV.out.block b h1) zV)
 have hvn:=(QV.out.k.inn who _ HX.out).2
 have hvn':OwnN V B (.slice (some ⟨gv,0,none⟩) k.vw.length cv) k.vw:=by rw [HVL.out];exact hvn
 have SA:=store_any gO cO B B gv cv S d.mem r lr k.vw c z b V hvn' QV.out.m (QV.out.m.some_ HME.out) HRR.out HLR.out HVL.out hc H24.out (by omega) (World.ownsRow.lt hvn gv rfl).1 (fun a ha=>QV.out.sk who _ gv HX.out (.inr rfl) a ha)
 rw [HVL.out] at SA
 have HS:=hidM1 SA
 clear hne u0 u1 u2 hb1 z1 hb3 hV X3 hvn hvn' SA
 go_wp2_with (go_at_call 170;refine Calls.mono HS.out ?_;rintro e w5 ⟨rfl,r',hO5,hM5,hb5,hs5,hf5,hp5⟩;have HO5:=hidM1 hO5;have HM5:=hidM1 hM5;have HB5:=hidM1 hb5;have HF5:=hidM1 hf5;have HP5:=hidM1 hp5;clear hO5 hM5 hb5 hs5 hf5 hp5)
 go_ret
 refine ⟨rfl,r',?_,(KV.out.mono ?_).trans HB5.out,fun b' h1 h2 h3 h4=>(HF5.out b' (by omega) h2 h3 h4).trans (KV.out.block b' h1)⟩
 ·refine MQ.view (g:=gv) QV.out HX.out rfl HO5.out HM5.out (fun hu h1 h2 hn q hq=>HF5.out q (World.ownsRow.lt hu _ hq).2 (fun e=>hn (by rw [hq,e])) (fun e=>ownType' hu QV.out.m.row h2 hq (by rw [e];rfl)) (ownType' hu (QV.out.m.r c r lr HRR.out HLR.out).own h1 hq)) HP5.out HB5.out.size
 ·have:=(World.ownsRow.lt HQ.out.m.row gO rfl).1
  omega
end
section
set_option linter.unusedSimpArgs false
set_option linter.unusedVariables false
set_option maxRecDepth 100000
open Go.RowKit
/- what the load of a view that is right answers -/
theorem loadQ {Hq : Nat → Prop} {w : World} {B gv cv gO cO who : Nat} {vc vk vt rv : Value} {LC : List CV} {LK : List KV} {S : List RS} {d : MD} {k : KD} (c : Nat) (late : Int) (hold : Bool) (hq : MQ w B Hq vc vk (.slice (some ⟨gO, 0, none⟩) d.mem.length cO) vt LC LK S d) (hx : LK[who]? = some ⟨k, rv, .slice (some ⟨gv, 0, none⟩) 24 cv⟩) (hvw : viewB d.mem k.vw = true) (hmem : memB d.mem = true) (hc : c < 24) (hlate : late ≤ 9223372036854775807) :
  Calls Tryz.prog 168 #[.slice (some ⟨gv,0,none⟩) 24 cv,.agg #[.slice (some ⟨gO,0,none⟩) d.mem.length cO],.int .i64 c,.int .i64 late,.bool hold] w fun e w'=>e=.returned (.int .i64 (ldX d.mem k.vw c late).v)∧MQ w' B Hq vc vk (.slice (some ⟨gO,0,none⟩) d.mem.length cO) vt LC (LK.set who ⟨{ k with vw:=ldW d.mem k.vw c late hold },rv,.slice (some ⟨gv,0,none⟩) 24 cv⟩) S (putK d who { k with vw:=ldW d.mem k.vw c late hold })∧Exc gv (gv+1) w w':=by
 obtain ⟨h24,lr,hlr,elr,h1,h4,-⟩:=memB_at hmem hc
 have hvl:k.vw.length=24:=by have:=(viewB_iff.1 hvw).1;omega
 obtain ⟨sM,cM,eM,mR⟩:=hq.m.memw
 injection eM with eM e2 e3
 clear e2
 subst eM
 subst e3
 obtain ⟨kk,rr2,ekk,hRt⟩:=right_of (m:=d.mem) (l:=k.vw) (cell:=(c:Int)) (by unfold rightB;rw [hmem,hvw];simp;omega)
 have ekk:kk=c:=by omega
 subst ekk
 have ekr:rr2=lr:=by have:=hRt.hr;rw [hlr] at this;injection this with this;exact this.symm
 subst ekr
 obtain ⟨hj1,hj2⟩:=ldJ_lt late hmem hvw hc
 obtain ⟨rr3,hr3,hx3,-⟩:=ldX_at late hmem hvw hc
 have er3:rr3=rr2:=by rw [hlr] at hr3;injection hr3 with hr3;exact hr3.symm
 subst er3
 rw [elr] at hj2
 have hvn:=(hq.k.inn who _ hx).2
 have hvn':OwnN w B (.slice (some ⟨gv,0,none⟩) k.vw.length cv) k.vw:=by rw [hvl];exact hvn
 have hav:MemAv w (some ⟨gO,0,none⟩) d.mem gv:=hq.m.av (own_ty hvn rfl) (fun a ha=>hq.sk who _ gv hx (.inr rfl) a ha)
 have LD:=load_any (some ⟨gO,0,none⟩) cO B w.heap.size B gv cv d.mem k.vw kk rr3 late hold (ldJ d.mem k.vw kk late) (ldX d.mem k.vw kk late) w mR hvn' (Nat.le_refl _) hav hRt hlate hj2 hx3
 rw [hvl,ldW_eq] at LD
 refine Calls.mono LD ?_
 rintro e w' ⟨rfl,ho,he⟩
 exact ⟨rfl,MQ.viewL hq hx rfl ho he,he⟩
end
section
set_option linter.unusedSimpArgs false
set_option linter.unusedVariables false
set_option maxRecDepth 100000
open Go.RowKit
set_option maxHeartbeats 2000000 in
theorem touch5 {Hq : Nat → Prop} {w : World} {B R bm gk gc gs gr gv who nn cv cr cs gO cO : Nat} {late : Int} {vc vk vt : Value} {nc cc : Nat} {pc st : Int} {LC : List CV} {LK : List KV} {S : List RS} {d : MD} {k : KD} (c r' : Nat) (a b n : Int) (h : Rn w R bm gk gc gs gr gv who nn cv cr cs late vc vk (.slice (some ⟨gO, 0, none⟩) d.mem.length cO) vt nc cc pc st) (hq : MQ w B Hq vc vk (.slice (some ⟨gO, 0, none⟩) d.mem.length cO) vt LC LK S d) (hx : LK[who]? = some ⟨k, .slice (some ⟨gr, 0, none⟩) 8 cr, .slice (some ⟨gv, 0, none⟩) 24 cv⟩) (h8 : k.regs.length = 8) (hvw : viewB d.mem k.vw = true) (hmem : memB d.mem = true) (hc : c < 24) (hr : r' < 8) (hlate : late ≤ 9223372036854775807) (hB : B ≤ w.heap.size) (nR : R ≠ gv) (nM : bm ≠ gv) :
  Calls Tryz.prog 162 #[.pointer (some ⟨R,0,none⟩),.agg #[.int .i64 5,.int .i64 r',.int .i64 a,.int .i64 b,.int .i64 n],.int .i64 c] w fun e w'=>e=.returned (.bool true)∧∃ LK',MQ w' B Hq vc vk (.slice (some ⟨gO,0,none⟩) d.mem.length cO) vt LC LK' S (putK d who { k with regs:=k.regs.set r' (ldX d.mem k.vw c late).v,vw:=ldW d.mem k.vw c late false })∧LK'[who]? =some ⟨{ k with regs:=k.regs.set r' (ldX d.mem k.vw c late).v,vw:=ldW d.mem k.vw c late false },.slice (some ⟨gr,0,none⟩) 8 cr,.slice (some ⟨gv,0,none⟩) 24 cv⟩∧LK'.length=LK.length∧Below B w w'∧∀ b',b' < w.heap.size→b'≠gv→b'≠gr→w'.heap[b']? =w.heap[b']? :=by
 have HQ:=hidM1 hq
 have HX:=hidM1 hx
 have H8:=hidM1 h8
 have bgv:B≤gv:=(World.ownsRow.lt (hq.k.inn who _ hx).2 gv rfl).1
 have bgr:B≤gr:=(World.ownsRow.lt (hq.k.inn who _ hx).1 gr rfl).1
 have hne':gr≠gv:=fun e=>hq.k.two who _ gr hx rfl (by rw [e];rfl)
 obtain ⟨r0,r1,r2,r3,r4,m0,m1,m2,m3,fm,ec,c0,k0,k1,k3,fk,wc,zR,zm,zk,zc,zr⟩:=h
 have br0:(0:Int)≤(r':Int):=by omega
 have br1:(r':Int) < 8:=by omega
 have HW:=hidM1 hvw
 have HME:=hidM1 hmem
 clear hq hx h8 hvw hmem
 go_enter Tryz.func162,Tryz.ntmps162
 go_wp2_with fail
 obtain ⟨V,hV⟩:∃ V,w.alloc (.cells #[.int .i64 5,.int .i64 r',.int .i64 a,.int .i64 b,.int .i64 n] 141)=V:=⟨_,rfl⟩
 have kv:Below w.heap.size w V:=by subst hV;exact (Below.refl _ _).alloc (Nat.le_refl _) _
 have zv:w.heap.size < V.heap.size:=by subst hV;simp
 have t1:V.cell? ⟨w.heap.size,1,none⟩=some (.int .i64 r'):=by subst hV;simp [go_sem]
 rw [hV]
 have KV:=hidM1 kv
 have QV:=hidM1 (HQ.out.keep (w':=V.drew) (fun b _ h1=>kv.block b h1) kv.size)
 have LD:=hidM1 (loadQ c late false QV.out HX.out HW.out HME.out hc hlate)
 have zgv:gv < w.heap.size:=(World.ownsRow.lt (HQ.out.k.inn who _ HX.out).2 gv rfl).2
 have hne:=extP_ne V (fun b=>b=gv)
 have u1:=ExtP.fit (E:=fun b=>b=gv) t1 zv (by omega)
 have u2:=ExtP.fit (E:=fun b=>b=gv) ((kv.cell (p:=⟨R,0,none⟩) zR).trans r0) (by omega) nR
 have u3:=ExtP.fit (E:=fun b=>b=gv) ((kv.cell (p:=⟨R,2,none⟩) zR).trans r2) (by omega) nR
 have u4:=ExtP.fit (E:=fun b=>b=gv) ((kv.cell (p:=⟨R,4,none⟩) zR).trans r4) (by omega) nR
 have u5:=ExtP.fit (E:=fun b=>b=gv) ((kv.cell (p:=⟨bm,4,none⟩) zm).trans m2) (by omega) nM
 refine regionMix V (CP V (fun b=>b=gv)) 20 21 (by kernel_rfl) (by kernel_rfl) (fun _ _ d _ _ h=>by cases d<;>exact h) (CP.drew _ _) ?_
 unfold CP
 dsimp only [List.take,List.drop]
 repeat (go_big_quiet_step (fail))
 refine wpQuiet_nil ?_
 clear hne u1 u2 u3 u4 u5
 unfold wpListC
 go_wp2_with (go_at_call 168;refine Calls.mono LD.out ?_;rintro e w5 ⟨rfl,q5,x5⟩)
 refine And.intro (fun _ hc=>CP.on hc x5.os x5.tape x5.out x5.size (fun b h1 h2=>x5.blk b h1 (by omega))) ?_
 refine listC_late _ _ _ _ (by decide) ?_
 obtain ⟨xv,hxv⟩:∃ xv,(ldX d.mem k.vw c late).v=xv:=⟨_,rfl⟩
 rw [hxv]
 have hrn:=(q5.k.inn who _ (set_at HX.out)).1
 have hrn':OwnN w5 B (.slice (some ⟨gr,0,none⟩) k.regs.length cr) k.regs:=by rw [H8.out];exact hrn
 have lr:=hrn'.cell (i:=r') (by rw [H8.out];omega)
 have fr:∀ j,w5.frozen? ⟨gr,j,none⟩=false:=fun j=>World.ownsRow.frozenAt hrn' j
 have Q5:=hidM1 q5
 have X5:=hidM1 x5
 have zr5:gr < w5.heap.size:=(World.ownsRow.lt hrn gr rfl).2
 clear q5 x5 hrn hrn' hV kv t1 r0 r1 r2 r3 r4 m0 m1 m2 m3 fm c0 k0 k1 k3 fk
 go_wp2
 go_ret
 have q6:=Q5.out.reg (set_at HX.out) H8.out r' xv
 rw [putK_putK] at q6
 have zdr:V.drew.heap.size=V.heap.size:=rfl
 subst hxv
 refine ⟨rfl,_,q6,set_at (set_at HX.out),?_,?_,fun b' h1 h2 h3=>?_⟩
 ·simp
 ·have kd:Below B w w5:=⟨X5.out.os.trans KV.out.os,X5.out.tape.trans KV.out.tape,X5.out.out.trans KV.out.output,by have:=X5.out.size;omega,fun b hb=>(X5.out.blk b (by omega) (by omega)).trans (KV.out.block b (by omega))⟩
  exact kd.setCell (p:=⟨gr,r',none⟩) bgr _
 ·exact (Below.heap_setCell _ ⟨gr,_,none⟩ _ b' h3).trans ((X5.out.blk b' (by omega) (by omega)).trans (KV.out.block b' h1))
end
section
set_option linter.unusedSimpArgs false
set_option linter.unusedVariables false
set_option maxRecDepth 100000
open Go.RowKit
set_option maxHeartbeats 1000000 in
theorem touch6y {Hq : Nat → Prop} {w : World} {B R bm gk gc gs gr gv who nn cv cr cs gO cO : Nat} {late : Int} {vc vk vt : Value} {nc cc : Nat} {pc st : Int} {LC : List CV} {LK : List KV} {S : List RS} {d : MD} {k : KD} (c b' : Nat) (r0_ a n vb : Int) (lr : List WD) (r : RS) (h : Rn w R bm gk gc gs gr gv who nn cv cr cs late vc vk (.slice (some ⟨gO, 0, none⟩) d.mem.length cO) vt nc cc pc st) (hq : MQ w B Hq vc vk (.slice (some ⟨gO, 0, none⟩) d.mem.length cO) vt LC LK S d) (hx : LK[who]? = some ⟨k, .slice (some ⟨gr, 0, none⟩) 8 cr, .slice (some ⟨gv, 0, none⟩) 24 cv⟩) (hvl : k.vw.length = 24) (hmem : memB d.mem = true) (hc : c < 24) (hb : b' < 8) (lb : w.cell? ⟨gr, b', none⟩ = some (.int .i64 vb)) (hlr : d.mem[c]? = some lr) (hr : S[c]? = some r) (hroom : lr.length < 4000) (hB : B ≤ w.heap.size) :
  Calls Tryz.prog 162 #[.pointer (some ⟨R,0,none⟩),.agg #[.int .i64 6,.int .i64 r0_,.int .i64 a,.int .i64 b',.int .i64 n],.int .i64 c] w fun e w'=>e=.returned (.bool true)∧∃ r',MQ w' B Hq vc vk (.slice (some ⟨gO,0,none⟩) d.mem.length cO) vt LC (LK.set who ⟨{ k with vw:=k.vw.set c (lr.length:Int) },.slice (some ⟨gr,0,none⟩) 8 cr,.slice (some ⟨gv,0,none⟩) 24 cv⟩) (S.set c r') { putK d who { k with vw:=k.vw.set c (lr.length:Int) } with mem:=d.mem.set c (lr++[⟨vb,toldL k.vw c lr.length false⟩]) }∧Below B w w'∧∀ b',b' < w.heap.size→b'≠gv→b'≠gO→r.val.ownBlock≠some b'→w'.heap[b']? =w.heap[b']? :=by
 obtain ⟨V,hV⟩:∃ V,w.alloc (.cells #[.int .i64 6,.int .i64 r0_,.int .i64 a,.int .i64 b',.int .i64 n] 141)=V:=⟨_,rfl⟩
 have kv:Below w.heap.size w V:=by subst hV;exact (Below.refl _ _).alloc (Nat.le_refl _) _
 have KV:=hidM1 kv
 have zV:=kv.size
 have QV:=hq.keep (w':=V) (fun b _ h1=>kv.block b h1) zV
 have RV:=h.below kv
 have WR:=hidM1 (write_yes c lr r vb false RV QV hx hvl hmem hc hlr hr hroom)
 obtain ⟨r0,r1,r2,r3,r4,m0,m1,m2,m3,fm,ec,c0,k0,k1,k3,fk,wc,zR,zm,zk,zc,zr⟩:=h
 have bb0:(0:Int)≤(b':Int):=by omega
 have bb1:(b':Int) < 8:=by omega
 have HV:=hidM1 hV
 clear hq hx hvl hmem hlr hr QV RV kv hV
 go_enter Tryz.func162,Tryz.ntmps162
 go_wp2_with fail
 rw [HV.out]
 refine Calls.mono WR.out ?_
 rintro e w5 ⟨rfl,r',q5,b5,f5⟩
 have Q5:=hidM1 q5
 have B5:=hidM1 b5
 have F5:=hidM1 f5
 clear q5 b5 f5
 go_wp2
 go_ret
 exact ⟨rfl,r',Q5.out,(KV.out.mono hB).trans B5.out,fun b' h1 h2 h3 h4=>(F5.out b' (by omega) h2 h3 h4).trans (KV.out.block b' h1)⟩
set_option maxHeartbeats 1000000 in
theorem touch6n {Hq : Nat → Prop} {w : World} {B R bm gk gc gs gr gv who nn cv cr cs gO cO : Nat} {late : Int} {vc vk vt : Value} {nc cc : Nat} {pc st : Int} {LC : List CV} {LK : List KV} {S : List RS} {d : MD} {k : KD} (c b' : Nat) (r0_ a n vb : Int) (lr : List WD) (r : RS) (h : Rn w R bm gk gc gs gr gv who nn cv cr cs late vc vk (.slice (some ⟨gO, 0, none⟩) d.mem.length cO) vt nc cc pc st) (hq : MQ w B Hq vc vk (.slice (some ⟨gO, 0, none⟩) d.mem.length cO) vt LC LK S d) (hx : LK[who]? = some ⟨k, .slice (some ⟨gr, 0, none⟩) 8 cr, .slice (some ⟨gv, 0, none⟩) 24 cv⟩) (hvl : k.vw.length = 24) (hmem : memB d.mem = true) (hc : c < 24) (hb : b' < 8) (lb : w.cell? ⟨gr, b', none⟩ = some (.int .i64 vb)) (hlr : d.mem[c]? = some lr) (hr : S[c]? = some r) (hroom : ¬ lr.length < 4000) (hB : B ≤ w.heap.size) :
  Calls Tryz.prog 162 #[.pointer (some ⟨R,0,none⟩),.agg #[.int .i64 6,.int .i64 r0_,.int .i64 a,.int .i64 b',.int .i64 n],.int .i64 c] w fun e w'=>e=.returned (.bool false)∧Below w.heap.size w w':=by
 obtain ⟨V,hV⟩:∃ V,w.alloc (.cells #[.int .i64 6,.int .i64 r0_,.int .i64 a,.int .i64 b',.int .i64 n] 141)=V:=⟨_,rfl⟩
 have kv:Below w.heap.size w V:=by subst hV;exact (Below.refl _ _).alloc (Nat.le_refl _) _
 have KV:=hidM1 kv
 have zV:=kv.size
 have QV:=hq.keep (w':=V) (fun b _ h1=>kv.block b h1) zV
 have RV:=h.below kv
 have h24:=(memB_at hmem (i:=0) (by omega)).1
 have lO:=QV.m.cellc rfl hr hlr
 have WR:=hidM1 (write_no (c:=c) vb false RV lO (World.ownsRow.lt QV.m.row gO rfl).2 (by omega) hroom)
 clear lO h24
 obtain ⟨r0,r1,r2,r3,r4,m0,m1,m2,m3,fm,ec,c0,k0,k1,k3,fk,wc,zR,zm,zk,zc,zr⟩:=h
 have bb0:(0:Int)≤(b':Int):=by omega
 have bb1:(b':Int) < 8:=by omega
 have HV:=hidM1 hV
 clear hq hx hvl hmem hlr hr QV RV kv hV
 go_enter Tryz.func162,Tryz.ntmps162
 go_wp2_with fail
 rw [HV.out]
 refine Calls.mono WR.out ?_
 rintro e w5 ⟨rfl,b5⟩
 have B5:=hidM1 b5
 clear b5
 go_wp2
 go_ret
 exact ⟨rfl,KV.out.trans (B5.out.mono zV)⟩
set_option maxHeartbeats 1000000 in
theorem touch7y {Hq : Nat → Prop} {w : World} {B R bm gk gc gs gr gv who nn cv cr cs gO cO : Nat} {late : Int} {vc vk vt : Value} {nc cc : Nat} {pc st : Int} {LC : List CV} {LK : List KV} {S : List RS} {d : MD} {k : KD} (c b' : Nat) (r0_ a n vb : Int) (lr : List WD) (r : RS) (h : Rn w R bm gk gc gs gr gv who nn cv cr cs late vc vk (.slice (some ⟨gO, 0, none⟩) d.mem.length cO) vt nc cc pc st) (hq : MQ w B Hq vc vk (.slice (some ⟨gO, 0, none⟩) d.mem.length cO) vt LC LK S d) (hx : LK[who]? = some ⟨k, .slice (some ⟨gr, 0, none⟩) 8 cr, .slice (some ⟨gv, 0, none⟩) 24 cv⟩) (hvl : k.vw.length = 24) (hmem : memB d.mem = true) (hc : c < 24) (hb : b' < 8) (lb : w.cell? ⟨gr, b', none⟩ = some (.int .i64 vb)) (hlr : d.mem[c]? = some lr) (hr : S[c]? = some r) (hroom : lr.length < 4000) (hB : B ≤ w.heap.size) :
  Calls Tryz.prog 162 #[.pointer (some ⟨R,0,none⟩),.agg #[.int .i64 7,.int .i64 r0_,.int .i64 a,.int .i64 b',.int .i64 n],.int .i64 c] w fun e w'=>e=.returned (.bool true)∧∃ r',MQ w' B Hq vc vk (.slice (some ⟨gO,0,none⟩) d.mem.length cO) vt LC (LK.set who ⟨{ k with vw:=k.vw.set c (lr.length:Int) },.slice (some ⟨gr,0,none⟩) 8 cr,.slice (some ⟨gv,0,none⟩) 24 cv⟩) (S.set c r') { putK d who { k with vw:=k.vw.set c (lr.length:Int) } with mem:=d.mem.set c (lr++[⟨vb,toldL k.vw c lr.length true⟩]) }∧Below B w w'∧∀ b',b' < w.heap.size→b'≠gv→b'≠gO→r.val.ownBlock≠some b'→w'.heap[b']? =w.heap[b']? :=by
 obtain ⟨V,hV⟩:∃ V,w.alloc (.cells #[.int .i64 7,.int .i64 r0_,.int .i64 a,.int .i64 b',.int .i64 n] 141)=V:=⟨_,rfl⟩
 have kv:Below w.heap.size w V:=by subst hV;exact (Below.refl _ _).alloc (Nat.le_refl _) _
 have KV:=hidM1 kv
 have zV:=kv.size
 have QV:=hq.keep (w':=V) (fun b _ h1=>kv.block b h1) zV
 have RV:=h.below kv
 have WR:=hidM1 (write_yes c lr r vb true RV QV hx hvl hmem hc hlr hr hroom)
 obtain ⟨r0,r1,r2,r3,r4,m0,m1,m2,m3,fm,ec,c0,k0,k1,k3,fk,wc,zR,zm,zk,zc,zr⟩:=h
 have bb0:(0:Int)≤(b':Int):=by omega
 have bb1:(b':Int) < 8:=by omega
 have HV:=hidM1 hV
 clear hq hx hvl hmem hlr hr QV RV kv hV
 go_enter Tryz.func162,Tryz.ntmps162
 go_wp2_with fail
 rw [HV.out]
 refine Calls.mono WR.out ?_
 rintro e w5 ⟨rfl,r',q5,b5,f5⟩
 have Q5:=hidM1 q5
 have B5:=hidM1 b5
 have F5:=hidM1 f5
 clear q5 b5 f5
 go_wp2
 go_ret
 exact ⟨rfl,r',Q5.out,(KV.out.mono hB).trans B5.out,fun b' h1 h2 h3 h4=>(F5.out b' (by omega) h2 h3 h4).trans (KV.out.block b' h1)⟩
set_option maxHeartbeats 1000000 in
theorem touch7n {Hq : Nat → Prop} {w : World} {B R bm gk gc gs gr gv who nn cv cr cs gO cO : Nat} {late : Int} {vc vk vt : Value} {nc cc : Nat} {pc st : Int} {LC : List CV} {LK : List KV} {S : List RS} {d : MD} {k : KD} (c b' : Nat) (r0_ a n vb : Int) (lr : List WD) (r : RS) (h : Rn w R bm gk gc gs gr gv who nn cv cr cs late vc vk (.slice (some ⟨gO, 0, none⟩) d.mem.length cO) vt nc cc pc st) (hq : MQ w B Hq vc vk (.slice (some ⟨gO, 0, none⟩) d.mem.length cO) vt LC LK S d) (hx : LK[who]? = some ⟨k, .slice (some ⟨gr, 0, none⟩) 8 cr, .slice (some ⟨gv, 0, none⟩) 24 cv⟩) (hvl : k.vw.length = 24) (hmem : memB d.mem = true) (hc : c < 24) (hb : b' < 8) (lb : w.cell? ⟨gr, b', none⟩ = some (.int .i64 vb)) (hlr : d.mem[c]? = some lr) (hr : S[c]? = some r) (hroom : ¬ lr.length < 4000) (hB : B ≤ w.heap.size) :
  Calls Tryz.prog 162 #[.pointer (some ⟨R,0,none⟩),.agg #[.int .i64 7,.int .i64 r0_,.int .i64 a,.int .i64 b',.int .i64 n],.int .i64 c] w fun e w'=>e=.returned (.bool false)∧Below w.heap.size w w':=by
 obtain ⟨V,hV⟩:∃ V,w.alloc (.cells #[.int .i64 7,.int .i64 r0_,.int .i64 a,.int .i64 b',.int .i64 n] 141)=V:=⟨_,rfl⟩
 have kv:Below w.heap.size w V:=by subst hV;exact (Below.refl _ _).alloc (Nat.le_refl _) _
 have KV:=hidM1 kv
 have zV:=kv.size
 have QV:=hq.keep (w':=V) (fun b _ h1=>kv.block b h1) zV
 have RV:=h.below kv
 have h24:=(memB_at hmem (i:=0) (by omega)).1
 have lO:=QV.m.cellc rfl hr hlr
 have WR:=hidM1 (write_no (c:=c) vb true RV lO (World.ownsRow.lt QV.m.row gO rfl).2 (by omega) hroom)
 clear lO h24
 obtain ⟨r0,r1,r2,r3,r4,m0,m1,m2,m3,fm,ec,c0,k0,k1,k3,fk,wc,zR,zm,zk,zc,zr⟩:=h
 have bb0:(0:Int)≤(b':Int):=by omega
 have bb1:(b':Int) < 8:=by omega
 have HV:=hidM1 hV
 clear hq hx hvl hmem hlr hr QV RV kv hV
 go_enter Tryz.func162,Tryz.ntmps162
 go_wp2_with fail
 rw [HV.out]
 refine Calls.mono WR.out ?_
 rintro e w5 ⟨rfl,b5⟩
 have B5:=hidM1 b5
 clear b5
 go_wp2
 go_ret
 exact ⟨rfl,KV.out.trans (B5.out.mono zV)⟩
end
end Go.Proofs.YtlbeploopclegaaGreat
