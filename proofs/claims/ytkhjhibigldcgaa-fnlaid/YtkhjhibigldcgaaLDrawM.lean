/- l6DrawRight: a memory and a view are drawn; the cursor's own block alone is turned. Conditions: the cursor and its bytes lie in memory as the reading says. -/
import Derived.Test.YtkhjhibigldcgaaLG00
import Derived.Test.YtkhjhibigldcgaaLG07
import Derived.Test.YtkhjhibigldcgaaLG05
import Derived.Test.YtkhjhibigldcgaaLG02
import Derived.Test.YtkhjhibigldcgaaLG06
import Derived.Test.YtkhjhibigldcgaaLG08
import Derived.Test.YtkhjhibigldcgaaLDraw1
import Derived.Deep.RegionHeld3
import Derived.Deep.RegionLaw
namespace Go.Proofs.Ytkhjhibigldcgaa
set_option linter.unusedSimpArgs false
set_option linter.unusedVariables false
set_option maxRecDepth 100000
open Go.RowKit
theorem OwnN.but {w w':World} {base p:Nat} {v:Value} {l:List Int} (h:OwnN w base v l) (hb:But p w w') (hp:p < base):OwnN w' base v l:=ownKeep' h (fun k e=>hb.block k (World.ownsRow.lt h _ e).2 (by have:=(World.ownsRow.lt h _ e).1;omega))
theorem CBx158.keepB {w w':World} {B p n c:Nat} {s:Option Addr} (h:CBx158 w p s n c) (hb:Below B w w') (hp:p < B):CBx158 w' p s n c:=by
 refine ⟨?_,h.2.1.below hb (by omega),h.2.2⟩
 obtain ⟨i,h',c0,c1,c2,hf,hi,hi',hp'⟩:=h.1
 exact ⟨i,h',(hb.cell (p:=⟨p,0,none⟩) hp).trans c0,(hb.cell (p:=⟨p,1,none⟩) hp).trans c1,(hb.cell (p:=⟨p,2,none⟩) hp).trans c2,fun j=>(hb.frozen (p:=⟨p,j,none⟩) hp).trans (hf j),hi,hi',by have:=hb.size;omega⟩
/- the box of a memory -/
structure BM (w:World) (X:Nat) (v:Value):Prop where
 blk:w.heap[X]? =some (.cells #[v] 30 (0,0))
theorem BM.c0 {w:World} {X:Nat} {v:Value} (h:BM w X v):w.cell? ⟨X,0,none⟩=some v:=by simp [World.cell?,h.blk]
theorem BM.fz {w:World} {X:Nat} {v:Value} (h:BM w X v):∀ j,w.frozen? ⟨X,j,none⟩=false:=fun j=>by simp [World.frozen?,h.blk]
theorem BM.lt {w:World} {X:Nat} {v:Value} (h:BM w X v):X < w.heap.size:=by
 apply Classical.byContradiction
 intro hn
 have e:=h.blk
 rw [Array.getElem?_eq_none (by omega)] at e
 cases e
theorem BM.new {w:World} {v:Value}:BM (w.alloc (.cells #[v] 30)) w.heap.size v:=⟨(MapKept.heap_alloc w _).1⟩
theorem BM.kept {w w':World} {X:Nat} {v:Value} (h:BM w X v) (hb:w'.heap[X]? =w.heap[X]?):BM w' X v:=⟨hb.trans h.blk⟩
theorem BM.set {w:World} {X:Nat} {v v':Value} (h:BM w X v):BM (w.setCell ⟨X,0,none⟩ v') X v':=⟨by rw [heap_set h.blk];simp⟩
theorem own_type {w:World} {B size n:Nat} {e:TypeId} {v:Value} {xs:List Value} (h:w.ownsRow B e size v n xs) {k:Nat} (hk:v.ownBlock=some k):∃ cs,w.heap[k]? =some (.cells cs e (0,0)):=by
 rcases h.2 with ⟨e1,-⟩ | ⟨g,cap,cur,e1,-,c,-⟩
 ·rw [e1] at hk;cases hk
 ·rw [e1] at hk
  injection hk with hk
  have hk:g=k:=hk
  subst hk
  exact ⟨cur,c⟩
theorem own_box {w : World} {B X : Nat} {v u u' : Value} {l : List Int} (h : OwnN w B v l) (hX : BM w X u) : OwnN (w.setCell ⟨X, 0, none⟩ u') B v l := ownKeep' h (fun b e => Below.heap_setCell _ _ _ b (by
  obtain ⟨cs,hc⟩:=own_type h e
  show b≠X
  intro e'
  rw [e',hX.blk] at hc
  injection hc with hc
  injection hc with h1 h2
  revert h2
  decide))
theorem RO.intc {w:World} {lo hi:Nat} {r:RS} {l:List WD} (h:RO w lo hi r l) {a:Addr} (ha:a∈rAs r.s r.vs 0):∃ z,w.cell? a=some (.int .i64 z):=by
 rcases mem_rAs.1 ha with ⟨i,hi',rfl⟩ | ⟨x,hx,hax⟩
 ·obtain ⟨x,hx⟩:∃ x,r.vs[i]? =some x:=⟨_,List.getElem?_eq_getElem hi'⟩
  obtain ⟨y,hy⟩:=at_same h.n.symm hx
  rcases h.c with h0 | ⟨g,o,hs,-,-,hc⟩
  ·rw [h0] at hy;simp at hy
  ·rw [hs]
   refine ⟨y.v,?_⟩
   have:=(hc i x y hx hy).1
   simpa [adr] using this
 ·obtain ⟨i,hi',e⟩:=List.getElem_of_mem hx
  have hx':r.vs[i]? =some x:=by rw [List.getElem?_eq_getElem hi',e]
  obtain ⟨y,hy⟩:=at_same h.n.symm hx'
  have hv:=h.v i x y hx' hy
  obtain ⟨k,hk,rfl⟩:=mem_vAs.1 hax
  rcases hv.c with h0 | ⟨g,o,hs,-,-,hc⟩
  ·have:=hv.n
   rw [h0] at this
   simp at this
   omega
  ·rw [hs]
   exact ⟨y.vw.getD k 0,(hc k (by rw [← hv.n];exact hk)).1⟩
theorem MU.box {w:World} {B X c n0 c0:Nat} {s s0:Option Addr} {m:List (List WD)} {u':Value} (h:MU w B s c m) (hX:BM w X (.slice s0 n0 c0)):MU (w.setCell ⟨X,0,none⟩ u') B s c m:=by
 obtain ⟨S,h⟩:=h
 have far:∀ a∈mAs S,(w.setCell ⟨X,0,none⟩ u').heap[a.block]? =w.heap[a.block]? :=fun a ha=>Below.heap_setCell _ _ _ _ (by
  show a.block≠X
  intro e
  obtain ⟨r,hr,har⟩:=mem_mAs.1 ha
  obtain ⟨i,hi',er⟩:=List.getElem_of_mem hr
  obtain ⟨l,hl⟩:=at_same h.n.symm (show S[i]? =some r by rw [List.getElem?_eq_getElem hi',er])
  obtain ⟨z,hz⟩:=(h.r i r l (by rw [List.getElem?_eq_getElem hi',er]) hl).intc har
  obtain ⟨g,o,sp⟩:=a
  have e:g=X:=e
  subst e
  have hsp:=World.cell?_spot hz
  simp at hsp
  subst hsp
  simp [World.cell?,hX.blk] at hz
  rcases o with - | o
  ·simp at hz
  ·simp at hz)
 refine ⟨S,h.n,?_,fun i r l h1 h2=>?_,h.d,h.sep⟩
 ·refine ownKeep' h.row (fun b e=>Below.heap_setCell _ _ _ b ?_)
  obtain ⟨cs,hc⟩:=own_type h.row e
  show b≠X
  intro e'
  rw [e',hX.blk] at hc
  injection hc with hc
  injection hc with h1 h2
  revert h2
  decide
 ·have:=(h.r i r l h1 h2).far2 (w':=w.setCell ⟨X,0,none⟩ u') (fun a ha=>far a (mem_mAs.2 ⟨r,List.mem_of_getElem? h1,ha⟩))
  simpa using this
structure G6 (w0 w:World) (p:Nat) (s:Option Addr) (n c R X:Nat) (sm:Option Addr) (cm:Nat) (m:List (List WD)) (va vb:Value) (la lb:List Int):Prop where
 cb:CBx158 w p s n c
 bx:BM w X (.slice sm m.length cm)
 rb:BM w R (.slice none 0 0)
 mu:MU w (R+1) sm cm m
 oa:OwnN w (R+1) va la
 ob:OwnN w (R+1) vb lb
 but:But p w0 w
 pR:p < R
 RX:R < X
 old:w0.heap.size≤R
theorem G6.step {w0 w w':World} {p n c R X cm:Nat} {s sm:Option Addr} {m:List (List WD)} {va vb:Value} {la lb:List Int} (h:G6 w0 w p s n c R X sm cm m va vb la lb) (hc:CBx158 w' p s n c) (hb:But p w w'):G6 w0 w' p s n c R X sm cm m va vb la lb:=by
 have h1:=h.pR
 have h2:=h.RX
 have h3:=h.bx.lt
 exact ⟨hc,h.bx.kept (hb.block X h3 (by omega)),h.rb.kept (hb.block R (by omega) (by omega)),h.mu.kept (fun b b1 b2=>hb.block b b2 (by omega)) hb.size,h.oa.but hb (by omega),h.ob.but hb (by omega),h.but.trans hb,h1,h2,h.old⟩
theorem G6.grow {w0 w w':World} {p n c R X cm:Nat} {s sm:Option Addr} {m:List (List WD)} {va vb:Value} {la lb:List Int} (h:G6 w0 w p s n c R X sm cm m va vb la lb) (hb:Below w.heap.size w w'):G6 w0 w' p s n c R X sm cm m va vb la lb:=h.step (h.cb.keep hb) (But.of_below hb)
theorem G6.once {w0 : World} {p n c R X cm : Nat} {s sm : Option Addr} {m : List (List WD)} {va vb : Value} {la lb : List Int} (q : Int) (w : World) (h : G6 w0 w p s n c R X sm cm m va vb la lb) (hq0 : 0 < q) (hq : q ≤ 256) :
  Calls Try.prog 35 #[.pointer (some ⟨p,0,none⟩),.int .i64 q] w fun e w'=>∃ x:Bool,e=.returned (.bool x)∧G6 w0 w' p s n c R X sm cm m va vb la lb:=by
 refine (once_cb p s n c q w h.cb hq0 hq).mono ?_
 rintro e w' ⟨x,rfl,hc,hb⟩
 exact ⟨x,rfl,h.step hc hb⟩
theorem G6.belowC {w0 : World} {p n c R X cm : Nat} {s sm : Option Addr} {m : List (List WD)} {va vb : Value} {la lb : List Int} (q : Int) (w : World) (h : G6 w0 w p s n c R X sm cm m va vb la lb) (hq0 : 0 < q) (hq : q ≤ 256) :
  Calls Try.prog 17 #[.pointer (some ⟨p,0,none⟩),.int .i64 q] w fun e w'=>∃ x:Int,e=.returned (.int .i64 x)∧0≤x∧x < q∧G6 w0 w' p s n c R X sm cm m va vb la lb:=by
 refine (below_cb p s n c q w h.cb hq0 hq).mono ?_
 rintro e w' ⟨x,rfl,x0,x1,hc,hb⟩
 exact ⟨x,rfl,x0,x1,h.step hc hb⟩
/- a new memory into the box, a new view for a or for b -/
theorem G6.putM {w0 w:World} {p n c R X cm c1:Nat} {s sm s1:Option Addr} {m M:List (List WD)} {va vb:Value} {la lb:List Int} (h:G6 w0 w p s n c R X sm cm m va vb la lb) (hm:MU w (R+1) s1 c1 M):G6 w0 (w.setCell ⟨X,0,none⟩ (.slice s1 M.length c1)) p s n c R X s1 c1 M va vb la lb:=by
 have h1:=h.pR
 have h2:=h.RX
 have h3:=h.bx.lt
 have h4:=h.old
 refine ⟨h.cb.set (by show p < X;omega),h.bx.set,h.rb.kept (Below.heap_setCell _ _ _ R (by show R≠X;omega)),hm.box h.bx,own_box h.oa h.bx,own_box h.ob h.bx,?_,h1,h2,h4⟩
 have b:Below w0.heap.size w (w.setCell ⟨X,0,none⟩ (.slice s1 M.length c1)):=(Below.refl _ _).setCell (p:=⟨X,0,none⟩) (by show w0.heap.size≤X;omega) _
 exact ⟨b.os.trans h.but.os,b.tape.trans h.but.tape,b.output.trans h.but.output,Nat.le_trans h.but.size b.size,fun k hk hp=>(b.block k hk).trans (h.but.block k hk hp)⟩
theorem G6.putA {w0 w:World} {p n c R X cm:Nat} {s sm:Option Addr} {m:List (List WD)} {va vb v:Value} {la lb l:List Int} (h:G6 w0 w p s n c R X sm cm m va vb la lb) (ho:OwnN w (R+1) v l):G6 w0 w p s n c R X sm cm m v vb l lb:=⟨h.cb,h.bx,h.rb,h.mu,ho,h.ob,h.but,h.pR,h.RX,h.old⟩
theorem G6.putB {w0 w:World} {p n c R X cm:Nat} {s sm:Option Addr} {m:List (List WD)} {va vb v:Value} {la lb l:List Int} (h:G6 w0 w p s n c R X sm cm m va vb la lb) (ho:OwnN w (R+1) v l):G6 w0 w p s n c R X sm cm m va v la l:=⟨h.cb,h.bx,h.rb,h.mu,h.oa,ho,h.but,h.pR,h.RX,h.old⟩
theorem G6.pick {w0 : World} {p n c R X cm : Nat} {s sm : Option Addr} {m : List (List WD)} {va vb : Value} {la lb : List Int} (g k : Nat) (l : List Int) (w : World) (h : G6 w0 w p s n c R X sm cm m va vb la lb) (hm : k = l.length) (hl0 : 0 < l.length) (hl : l.length ≤ 256) (hg : g < w.heap.size) (hX : X < g) (hcell : ∀ i, i < l.length → w.cell? ⟨g, 0 + i, none⟩ = some (.int .i64 (l.getD i 0))) :
  Calls Try.prog 33 #[.pointer (some ⟨p,0,none⟩),.slice (some ⟨g,0,none⟩) k k] w fun e w'=>∃ x:Int,e=.returned (.int .i64 x)∧G6 w0 w' p s n c R X sm cm m va vb la lb:=by
 have h1:=h.pR
 have h2:=h.RX
 refine (pick_cb p s n c g k l w h.cb hm hl0 hl hg (by omega) hcell).mono ?_
 rintro e w' ⟨x,rfl,x0,hc,hb⟩
 exact ⟨x,rfl,h.step hc hb⟩
theorem G6.fin {w0 w:World} {p n c R X cm:Nat} {s sm:Option Addr} {m:List (List WD)} {va vb u:Value} {la lb:List Int} (h:G6 w0 w p s n c R X sm cm m va vb la lb):MU (w.setCell ⟨R,0,none⟩ u) w0.heap.size sm cm m∧OwnN (w.setCell ⟨R,0,none⟩ u) w0.heap.size va la∧OwnN (w.setCell ⟨R,0,none⟩ u) w0.heap.size vb lb∧CBx158 (w.setCell ⟨R,0,none⟩ u) p s n c∧But p w0 (w.setCell ⟨R,0,none⟩ u):=by
 have h4:=h.old
 refine ⟨(h.mu.box h.rb).low (by omega),ownLow' (own_box h.oa h.rb) (by omega),ownLow' (own_box h.ob h.rb) (by omega),h.cb.set (by show p < R;exact h.pR),?_⟩
 have b:Below w0.heap.size w (w.setCell ⟨R,0,none⟩ u):=(Below.refl _ _).setCell (p:=⟨R,0,none⟩) h4 _
 exact ⟨b.os.trans h.but.os,b.tape.trans h.but.tape,b.output.trans h.but.output,Nat.le_trans h.but.size b.size,fun k hk hp=>(b.block k hk).trans (h.but.block k hk hp)⟩
theorem own_ints {w:World} {B:Nat} {sa:Option Addr} {ca:Nat} {l:List Int} (h:OwnN w B (.slice sa l.length ca) l):IntsR w B w.heap.size sa l:=by
 obtain ⟨s',c',e,hi⟩:=ownN_ints h
 injection e with e1
 subst e1
 exact hi
theorem entOnce (args:Array Value) (w:World):(callFunc 35 args).run Try.prog w=.ok (.enter 35 args) w:=by kernel_rfl
theorem entBelow (args:Array Value) (w:World):(callFunc 17 args).run Try.prog w=.ok (.enter 17 args) w:=by kernel_rfl
theorem entLoad (args:Array Value) (w:World):(callFunc 53 args).run Try.prog w=.ok (.enter 53 args) w:=by kernel_rfl
theorem entStore (args:Array Value) (w:World):(callFunc 52 args).run Try.prog w=.ok (.enter 52 args) w:=by kernel_rfl
theorem Inv6.next {m:List (List WD)} {j:Nat} (h:Inv6 m (600+25 * j+25)):Inv6 m (600+25 * (j+1)):=h.up (by omega)
theorem made_own (w:World) (B:Nat) (hB:B≤w.heap.size):OwnN (w.alloc (.cells (madeCells #[.int .i64 0] 24) 3)) B (.slice (some ⟨w.heap.size,0,none⟩) 24 24) (List.replicate 24 0):=by
 have h0:=World.ownsRow_lit (base:=B) (e:=3) (size:=1) w (madeCells #[.int .i64 0] 24) 24 hB (by unfold maxLen;omega) (size_madeCells _ _)
 rw [toList_madeCells_one] at h0
 exact h0
set_option maxRecDepth 100000 in
set_option maxHeartbeats 8000000 in
theorem drawRight_cb (p : Nat) (s : Option Addr) (n c : Nat) (w : World) (h : CBx158 w p s n c) :
  Calls Try.prog 45 #[.pointer (some ⟨p,0,none⟩)] w fun e w'=>∃ (sm:Option Addr) (cm:Nat) (m:List (List WD)) (v:Value) (l:List Int),e=.returned (.tuple #[.agg #[.slice sm m.length cm],v])∧MU w' w.heap.size sm cm m∧OwnN w' w.heap.size v l∧Inv6 m 2000∧l.length=24∧CBx158 w' p s n c∧But p w w':=by
 have hp:=h.lt
 have H0:Hid (CBx158 w p s n c):=h
 clear h
 have hmk:∀ w:World,(Instr.makeSlice 24 (.int .i64 24) (.int .i64 24)).run Try.prog w=.ok (.slice (some ⟨w.heap.size,0,none⟩) 24 24) (w.alloc (.cells (madeCells #[.int .i64 0] 24) 3)):=fun w=>by simpa using mkInt 24 (by omega) w
 go_enter Try.func45,Try.ntmps45
 go_wp2_with fail
 obtain ⟨W,hW⟩:∃ W,w.alloc (.cells #[.slice none 0 0] 30)=W:=⟨_,rfl⟩
 have R0:BM W w.heap.size (.slice none 0 0):=by rw [← hW];exact BM.new
 have K0:Below w.heap.size w W:=by rw [← hW];exact (Below.refl _ _).alloc (Nat.le_refl _) _
 have C0:CBx158 W p s n c:=by rw [← hW];exact H0.out.alloc _
 have S0:W.heap.size=w.heap.size+1:=by rw [← hW];simp
 rw [hW]
 clear hW
 refine (specNewU_any W).mono ?_
 rintro e w1 ⟨s1,c1,rfl,hm1,hb1⟩
 have F:Hid (∃ U,(((w1.alloc (.cells #[.slice s1 24 c1] 30)).alloc (.cells (madeCells #[.int .i64 0] 24) 3)).alloc (.cells (madeCells #[.int .i64 0] 24) 3))=U∧G6 w U p s n c w.heap.size w1.heap.size s1 c1 (newM 24) (.slice (some ⟨w1.heap.size+1,0,none⟩) 24 24) (.slice (some ⟨w1.heap.size+1+1,0,none⟩) 24 24) (List.replicate 24 0) (List.replicate 24 0)):=by
  refine ⟨_,rfl,?_⟩
  have z1:=hb1.size
  have a1:=(Below.refl w1.heap.size w1).alloc (Nat.le_refl _) (.cells #[.slice s1 24 c1] 30)
  have b1:BM (w1.alloc (.cells #[.slice s1 24 c1] 30)) w1.heap.size (.slice s1 24 c1):=BM.new
  have e1:(w1.alloc (.cells #[.slice s1 24 c1] 30)).heap.size=w1.heap.size+1:=by simp
  generalize w1.alloc (.cells #[.slice s1 24 c1] 30)=A at a1 b1 e1 ⊢
  have a2:=(Below.refl A.heap.size A).alloc (Nat.le_refl _) (.cells (madeCells #[.int .i64 0] 24) 3)
  have r2:=made_own A (w.heap.size+1) (by omega)
  have e2:(A.alloc (.cells (madeCells #[.int .i64 0] 24) 3)).heap.size=A.heap.size+1:=by simp
  generalize A.alloc (.cells (madeCells #[.int .i64 0] 24) 3)=C at a2 r2 e2 ⊢
  have a3:=(Below.refl C.heap.size C).alloc (Nat.le_refl _) (.cells (madeCells #[.int .i64 0] 24) 3)
  have r3:=made_own C (w.heap.size+1) (by omega)
  generalize C.alloc (.cells (madeCells #[.int .i64 0] 24) 3)=E at a3 r3 ⊢
  have k1:Below w1.heap.size w1 E:=(a1.trans (a2.mono (by omega))).trans (a3.mono (by omega))
  have k2:Below W.heap.size W E:=hb1.trans (k1.mono z1)
  rw [e1] at r2
  rw [e2,e1] at r3
  refine ⟨C0.keep k2,?_,R0.kept (k2.block _ R0.lt),(hm1.below k1).low (by omega),ownKeep' r2 (fun b e=>a3.block b (World.ownsRow.lt r2 _ e).2),r3,But.of_below (K0.trans (k2.mono (by omega))),hp,by omega,Nat.le_refl _⟩
  rw [newM_len]
  exact b1.kept ((a3.block _ (by omega)).trans (a2.block _ (by omega)))
 obtain ⟨U,hU,hg⟩:=F.out
 have G0:Hid (G6 w U p s n c w.heap.size w1.heap.size s1 c1 (newM 24) (.slice (some ⟨w1.heap.size+1,0,none⟩) 24 24) (.slice (some ⟨w1.heap.size+1+1,0,none⟩) 24 24) (List.replicate 24 0) (List.replicate 24 0)):=hg
 have hRX:w.heap.size < w1.heap.size:=hg.RX
 clear F hg hm1 hb1 C0 K0 S0 R0 H0
 go_wp2_with fail
 try rw [hU]
 clear hU hmk
 generalize w1.heap.size=X at G0 hRX ⊢
 refine (G0.out.belowC 30 U (by omega) (by omega)).mono ?_
 rintro e w2 ⟨q,rfl,q0,q1,hg⟩
 have G1:Hid (G6 w w2 p s n c w.heap.size X s1 c1 (newM 24) (.slice (some ⟨X+1,0,none⟩) 24 24) (.slice (some ⟨X+1+1,0,none⟩) 24 24) (List.replicate 24 0) (List.replicate 24 0)):=hg
 clear hg G0
 go_wp2
 go_loopw [5,6,8] (fun va vb i wr=>∃ (j:Nat) (sm:Option Addr) (cm:Nat) (m:List (List WD)) (la lb:List Int),(j:Int)≤q∧i=.int .i64 j∧G6 w wr p s n c w.heap.size X sm cm m va vb la lb∧Inv6 m (600+25 * j)∧la.length=24∧lb.length=24) (fun _ _ i _=>30 - (intOf i).toNat)
 case atStart=>exact ⟨0,s1,c1,newM 24,_,_,by omega,rfl,G1.out,new_inv,by simp,by simp⟩
 case round=>
  obtain ⟨j,sm,cm,m,la,lb,hj,rfl,hg,hinv,hla,hlb⟩:=hrel
  have G2:Hid (G6 w wr p s n c w.heap.size X sm cm m u5 u6 la lb):=hg
  have HI:Hid (Inv6 m (600+25 * j)):=hinv
  have HLA:Hid (la.length=24):=hla
  have HLB:Hid (lb.length=24):=hlb
  obtain ⟨sa,ca,rfl⟩:=ownSl hg.oa
  obtain ⟨sb,cb,rfl⟩:=ownSl hg.ob
  clear hg hinv hla hlb G1
  by_cases hlt:(j:Int) < q
  ·have hzr:=G2.out.bx.lt
   go_wp2_with fail
   refine (G6.pick wr.heap.size 5 [0,1,2,5,23] _ (G2.out.grow ((Below.refl _ _).alloc (Nat.le_refl _) _)) rfl (by simp) (by simp) (by simp) hzr (fun i hi=>by match i,hi with | 0,_=>simp [go_sem] | 1,_=>simp [go_sem] | 2,_=>simp [go_sem] | 3,_=>simp [go_sem] | 4,_=>simp [go_sem])).mono ?_
   rintro e w3 ⟨cell,rfl,hg⟩
   have G3:Hid (G6 w w3 p s n c w.heap.size X sm cm m (.slice sa la.length ca) (.slice sb lb.length cb) la lb):=hg
   clear hg G2 hzr
   go_wp2_with fail
   refine (G3.out.belowC 5 w3 (by omega) (by omega)).mono ?_
   rintro e w4 ⟨t,rfl,t0,t1,hg⟩
   have G4:Hid (G6 w w4 p s n c w.heap.size X sm cm m (.slice sa la.length ca) (.slice sb lb.length cb) la lb):=hg
   have GD:Hid (G6 w w4.drew p s n c w.heap.size X sm cm m (.slice sa la.length ca) (.slice sb lb.length cb) la lb):=hg.grow (Below.drew (Below.refl _ _))
   clear hg G3
   have x0:=G4.out.bx.c0
   have xl:=G4.out.bx.lt
   have hMF:Hid (MFits m):=HI.out.fits (by omega)
   have hjb:(j:Int) < 30:=by omega
   by_cases e0:t=0
   ·subst e0
    go_wp2_with fail
    go_region_law (first | (refine step_call 35 #[.pointer (some ⟨p,0,none⟩),.int .i64 2] (by rfl) _ _ (by rfl) (by simp [go_sem]) entOnce ?_;refine (GD.out.once 2 w4.drew (by omega) (by omega)).mono ?_;rintro e w5 ⟨x,rfl,hg⟩;refine ⟨_,rfl,?_⟩;have GO:=(show Hid (G6 w w5 p s n c w.heap.size X sm cm m (.slice sa la.length ca) (.slice sb lb.length cb) la lb) from hg);clear hg;have y0:=GO.out.bx.c0;have yl:=GO.out.bx.lt) | (refine step_call 52 #[.agg #[.slice sm m.length cm],.slice sa la.length ca,.int .i64 cell,.int .i64 j,.bool x] (by rfl) _ _ (by rfl) (by simp [go_sem]) entStore ?_;refine (specStoreU_any sm sa cm ca _ _ _ _ m la cell j x w5 GO.out.mu.mem (own_ints GO.out.oa) (Nat.le_refl _) (Nat.le_refl _) (by have:=HLA.out;omega) hMF.out).mono ?_;rintro e w6 ⟨sM,cM,nM,v6,rfl,hnM,hmu,hov,hb6⟩;refine ⟨_,rfl,?_⟩;subst hnM;obtain ⟨s6,c6,ev6⟩:=ownSl hov;subst ev6;have GS:=(show Hid (G6 w w6 p s n c w.heap.size X sm cm m (.slice sa la.length ca) (.slice sb lb.length cb) la lb) from GO.out.grow hb6);have HMU:=(show Hid (MU w6 w5.heap.size sM cM (stoM m la cell j x)) from hmu);have HOV:=(show Hid (OwnN w6 w5.heap.size (.slice s6 (stoW m la cell).length c6) (stoW m la cell)) from hov);clear hmu hov hb6;have z0:=GS.out.bx.c0;have zl:=GS.out.bx.lt;have zf:=GS.out.bx.fz 0))
    all_goals
     go_wp2
     go_roundw
     case rel=>exact ⟨j+1,sM,cM,stoM m la cell j x,stoW m la cell,lb,by omega,by go_num,((GS.out.putA (ownLow' HOV.out (by omega))).putM (HMU.out.low (by omega))),((sto_inv cell j x HI.out HLA.out).1).next,(sto_inv cell j x HI.out HLA.out).2,HLB.out⟩
     case measure=>simp [intOf];omega
   by_cases e1:t=1
   ·subst e1
    go_wp2_with fail
    go_region_law (first | (refine step_call 35 #[.pointer (some ⟨p,0,none⟩),.int .i64 2] (by rfl) _ _ (by rfl) (by simp [go_sem]) entOnce ?_;refine (GD.out.once 2 w4.drew (by omega) (by omega)).mono ?_;rintro e w5 ⟨x,rfl,hg⟩;refine ⟨_,rfl,?_⟩;have GO:=(show Hid (G6 w w5 p s n c w.heap.size X sm cm m (.slice sa la.length ca) (.slice sb lb.length cb) la lb) from hg);clear hg;have y0:=GO.out.bx.c0;have yl:=GO.out.bx.lt) | (refine step_call 52 #[.agg #[.slice sm m.length cm],.slice sb lb.length cb,.int .i64 cell,.int .i64 j,.bool x] (by rfl) _ _ (by rfl) (by simp [go_sem]) entStore ?_;refine (specStoreU_any sm sb cm cb _ _ _ _ m lb cell j x w5 GO.out.mu.mem (own_ints GO.out.ob) (Nat.le_refl _) (Nat.le_refl _) (by have:=HLB.out;omega) hMF.out).mono ?_;rintro e w6 ⟨sM,cM,nM,v6,rfl,hnM,hmu,hov,hb6⟩;refine ⟨_,rfl,?_⟩;subst hnM;obtain ⟨s6,c6,ev6⟩:=ownSl hov;subst ev6;have GS:=(show Hid (G6 w w6 p s n c w.heap.size X sm cm m (.slice sa la.length ca) (.slice sb lb.length cb) la lb) from GO.out.grow hb6);have HMU:=(show Hid (MU w6 w5.heap.size sM cM (stoM m lb cell j x)) from hmu);have HOV:=(show Hid (OwnN w6 w5.heap.size (.slice s6 (stoW m lb cell).length c6) (stoW m lb cell)) from hov);clear hmu hov hb6;have z0:=GS.out.bx.c0;have zl:=GS.out.bx.lt;have zf:=GS.out.bx.fz 0))
    all_goals
     go_wp2
     go_roundw
     case rel=>exact ⟨j+1,sM,cM,stoM m lb cell j x,la,stoW m lb cell,by omega,by go_num,((GS.out.putB (ownLow' HOV.out (by omega))).putM (HMU.out.low (by omega))),((sto_inv cell j x HI.out HLB.out).1).next,HLA.out,(sto_inv cell j x HI.out HLB.out).2⟩
     case measure=>simp [intOf];omega
   by_cases e2:t=2
   ·subst e2
    go_wp2_with fail
    go_region_law (first | (refine step_call 17 #[.pointer (some ⟨p,0,none⟩),.int .i64 3] (by rfl) _ _ (by rfl) (by simp [go_sem]) entBelow ?_;refine (GD.out.belowC 3 w4.drew (by omega) (by omega)).mono ?_;rintro e w5 ⟨z,rfl,za,zb,hg⟩;refine ⟨_,rfl,?_⟩;have GB:=(show Hid (G6 w w5 p s n c w.heap.size X sm cm m (.slice sa la.length ca) (.slice sb lb.length cb) la lb) from hg);clear hg;have v0:=GB.out.bx.c0;have vl:=GB.out.bx.lt) | (refine step_call 35 #[.pointer (some ⟨p,0,none⟩),.int .i64 2] (by rfl) _ _ (by rfl) (by simp [go_sem]) entOnce ?_;refine (GB.out.once 2 w5 (by omega) (by omega)).mono ?_;rintro e w6 ⟨x,rfl,hg⟩;refine ⟨_,rfl,?_⟩;have GO:=(show Hid (G6 w w6 p s n c w.heap.size X sm cm m (.slice sa la.length ca) (.slice sb lb.length cb) la lb) from hg);clear hg;have y0:=GO.out.bx.c0;have yl:=GO.out.bx.lt) | (refine step_call 53 #[.agg #[.slice sm m.length cm],.slice sa la.length ca,.int .i64 cell,.int .i64 z,.bool x] (by rfl) _ _ (by rfl) (by simp [go_sem]) entLoad ?_;refine (specLoad_any sm sa cm ca _ _ _ _ m la cell z x w6 GO.out.mu.mem (own_ints GO.out.oa) (Nat.le_refl _) (Nat.le_refl _) (by have:=HLA.out;omega) (by have:=hMF.out;unfold MFits at this;omega) (by omega)).mono ?_;rintro e w7 ⟨v7,rfl,hov,hb7⟩;refine ⟨_,rfl,?_⟩;obtain ⟨s7,c7,ev7⟩:=ownSl hov;subst ev7;have GS:=(show Hid (G6 w w7 p s n c w.heap.size X sm cm m (.slice sa la.length ca) (.slice sb lb.length cb) la lb) from GO.out.grow hb7);have HOV:=(show Hid (OwnN w7 w6.heap.size (.slice s7 (loadW m la cell z x).length c7) (loadW m la cell z x)) from hov);clear hov hb7))
    all_goals
     go_wp2
     go_roundw
     case rel=>exact ⟨j+1,sm,cm,m,loadW m la cell z x,lb,by omega,by go_num,GS.out.putA (ownLow' HOV.out (by omega)),HI.out.up (by omega),(load_len cell z x HI.out HLA.out),HLB.out⟩
     case measure=>simp [intOf];omega
   by_cases e3:t=3
   ·subst e3
    go_wp2_with fail
    go_region_law (first | (refine step_call 17 #[.pointer (some ⟨p,0,none⟩),.int .i64 3] (by rfl) _ _ (by rfl) (by simp [go_sem]) entBelow ?_;refine (GD.out.belowC 3 w4.drew (by omega) (by omega)).mono ?_;rintro e w5 ⟨z,rfl,za,zb,hg⟩;refine ⟨_,rfl,?_⟩;have GB:=(show Hid (G6 w w5 p s n c w.heap.size X sm cm m (.slice sa la.length ca) (.slice sb lb.length cb) la lb) from hg);clear hg;have v0:=GB.out.bx.c0;have vl:=GB.out.bx.lt) | (refine step_call 35 #[.pointer (some ⟨p,0,none⟩),.int .i64 2] (by rfl) _ _ (by rfl) (by simp [go_sem]) entOnce ?_;refine (GB.out.once 2 w5 (by omega) (by omega)).mono ?_;rintro e w6 ⟨x,rfl,hg⟩;refine ⟨_,rfl,?_⟩;have GO:=(show Hid (G6 w w6 p s n c w.heap.size X sm cm m (.slice sa la.length ca) (.slice sb lb.length cb) la lb) from hg);clear hg;have y0:=GO.out.bx.c0;have yl:=GO.out.bx.lt) | (refine step_call 53 #[.agg #[.slice sm m.length cm],.slice sb lb.length cb,.int .i64 cell,.int .i64 z,.bool x] (by rfl) _ _ (by rfl) (by simp [go_sem]) entLoad ?_;refine (specLoad_any sm sb cm cb _ _ _ _ m lb cell z x w6 GO.out.mu.mem (own_ints GO.out.ob) (Nat.le_refl _) (Nat.le_refl _) (by have:=HLB.out;omega) (by have:=hMF.out;unfold MFits at this;omega) (by omega)).mono ?_;rintro e w7 ⟨v7,rfl,hov,hb7⟩;refine ⟨_,rfl,?_⟩;obtain ⟨s7,c7,ev7⟩:=ownSl hov;subst ev7;have GS:=(show Hid (G6 w w7 p s n c w.heap.size X sm cm m (.slice sa la.length ca) (.slice sb lb.length cb) la lb) from GO.out.grow hb7);have HOV:=(show Hid (OwnN w7 w6.heap.size (.slice s7 (loadW m lb cell z x).length c7) (loadW m lb cell z x)) from hov);clear hov hb7))
    all_goals
     go_wp2
     go_roundw
     case rel=>exact ⟨j+1,sm,cm,m,la,loadW m lb cell z x,by omega,by go_num,GS.out.putB (ownLow' HOV.out (by omega)),HI.out.up (by omega),HLA.out,(load_len cell z x HI.out HLB.out)⟩
     case measure=>simp [intOf];omega
   have n0:(t==0)=false:=by simpa using e0
   have n1:(t==1)=false:=by simpa using e1
   have n2:(t==2)=false:=by simpa using e2
   have n3:(t==3)=false:=by simpa using e3
   go_wp2_with fail
   refine (specSwapU_any sm sa cm ca _ _ _ _ m la cell j w4 G4.out.mu.mem (own_ints G4.out.oa) (Nat.le_refl _) (Nat.le_refl _) (by have:=HLA.out;omega) hMF.out).mono ?_
   rintro e w6 ⟨sM,cM,nM,v6,rfl,hnM,hmu,hov,hb6⟩
   subst hnM
   obtain ⟨s6,c6,ev6⟩:=ownSl hov
   subst ev6
   have GS:Hid (G6 w w6 p s n c w.heap.size X sm cm m (.slice sa la.length ca) (.slice sb lb.length cb) la lb):=G4.out.grow hb6
   have HMU:Hid (MU w6 w4.heap.size sM cM (swM m la cell j)):=hmu
   have HOV:Hid (OwnN w6 w4.heap.size (.slice s6 (swW m la cell).length c6) (swW m la cell)):=hov
   clear hmu hov hb6
   have z0:=GS.out.bx.c0
   have zl:=GS.out.bx.lt
   have zf:=GS.out.bx.fz 0
   go_wp2
   go_roundw
   case rel=>exact ⟨j+1,sM,cM,swM m la cell j,swW m la cell,lb,by omega,by go_num,((GS.out.putA (ownLow' HOV.out (by omega))).putM (HMU.out.low (by omega))),((sw_inv cell j HI.out HLA.out).1).next,(sw_inv cell j HI.out HLA.out).2,HLB.out⟩
   case measure=>simp [intOf];omega
  ·go_wp2_with fail
   refine (G2.out.once 2 wr (by omega) (by omega)).mono ?_
   rintro e w3 ⟨x,rfl,hg⟩
   have G3:Hid (G6 w w3 p s n c w.heap.size X sm cm m (.slice sa la.length ca) (.slice sb lb.length cb) la lb):=hg
   clear hg G2
   have x0:=G3.out.bx.c0
   have xl:=G3.out.bx.lt
   have y0:=G3.out.rb.c0
   have yz:=G3.out.rb.fz 0
   have hN:600+25 * j≤2000:=by omega
   cases x
   ·go_wp2
    obtain ⟨f1,f2,f3,f4,f5⟩:=G3.out.fin (u:=.slice sm m.length cm)
    exact bodyPost_ret (v:=.tuple #[.agg #[.slice sm m.length cm],.slice sa la.length ca]) (by simp [results,Try.results45,go_sem,y0]) rfl ⟨sm,cm,m,_,la,rfl,f1,f2,HI.out.up hN,HLA.out,f4,f5⟩
   ·go_wp2
    obtain ⟨f1,f2,f3,f4,f5⟩:=G3.out.fin (u:=.slice sm m.length cm)
    exact bodyPost_ret (v:=.tuple #[.agg #[.slice sm m.length cm],.slice sb lb.length cb]) (by simp [results,Try.results45,go_sem,y0]) rfl ⟨sm,cm,m,_,lb,rfl,f1,f3,HI.out.up hN,HLB.out,f4,f5⟩
end Go.Proofs.Ytkhjhibigldcgaa
