/- Cores copied by the program and by the specification. Conditions: their rows of at most 1048576. A machine copied by the program. Conditions: it is counted. Stores into a machine that runs: a core's place, its state, a register, its view. No condition. -/
import Derived.Test.YtlbeploopclegaaGreatQG00
import Derived.Test.YtlbeploopclegaaGreatQG01
import Derived.Test.YtlbeploopclegaaGreatQG04
import Derived.Test.YtlbeploopclegaaGreatQG02
import Derived.Test.YtlbeploopclegaaGreatQG10
import Derived.Test.YtlbeploopclegaaGreatQG05
import Derived.Test.YtlbeploopclegaaGreatQG08
import Derived.Deep.RegionHeld3
import Derived.Deep.DeepCutAuto
namespace Go.Proofs.YtlbeploopclegaaGreat
section
set_option linter.unusedSimpArgs false
set_option linter.unusedVariables false
set_option maxRecDepth 100000
open Go.RowKit
theorem two4x {w W:World} {a b c d a' b' c' d':Value} {T T':TypeId} (hW:(w.alloc (.cells #[a,b,c,d] T)).alloc (.cells #[a',b',c',d'] T')=W):Below w.heap.size w W∧X4 W w.heap.size a b c d∧X4 W (w.heap.size+1) a' b' c' d'∧W.heap.size=w.heap.size+2:=by
 subst hW
 refine ⟨((Below.refl _ _).alloc (Nat.le_refl _) _).alloc (by simp) _,⟨⟨?_,?_,?_,?_,?_⟩,?_⟩,⟨⟨?_,?_,?_,?_,?_⟩,?_⟩,?_⟩<;>first | (simp [go_sem];done) | (simp [go_sem];omega) | (intro j;simp [go_sem])
set_option maxHeartbeats 1000000 in
theorem sameCore_any (k : KD) (s1 s2 : Option Addr) (c1 c2 lo hi : Nat) (w : World) (h1 : IntsR w lo hi s1 k.regs) (h2 : IntsR w lo hi s2 k.vw) (hB : hi ≤ w.heap.size) (hl1 : k.regs.length ≤ 1048576) (hl2 : k.vw.length ≤ 1048576) :
  Calls Tryz.prog 96 #[.agg #[.int .i64 k.pc,.slice s1 k.regs.length c1,.slice s2 k.vw.length c2,.int .i64 k.st]] w fun e w'=>∃ a1 b1 a2 b2,e=.returned (.agg #[.int .i64 k.pc,.slice a1 k.regs.length b1,.slice a2 k.vw.length b2,.int .i64 k.st])∧OwnN w' w.heap.size (.slice a1 k.regs.length b1) k.regs∧OwnN w' w.heap.size (.slice a2 k.vw.length b2) k.vw∧(∀ q,(Value.slice a1 k.regs.length b1).ownBlock=some q→(Value.slice a2 k.vw.length b2).ownBlock≠some q)∧Below w.heap.size w w'∧w.heap.size < w'.heap.size:=by
 have H1:Hid (IntsR w lo hi s1 k.regs):=h1
 have H2:Hid (IntsR w lo hi s2 k.vw):=h2
 clear h1 h2
 go_enter Tryz.func96,Tryz.ntmps96
 obtain ⟨W,hW⟩:∃ W,(w.alloc (.cells #[.int .i64 k.pc,.slice s1 k.regs.length c1,.slice s2 k.vw.length c2,.int .i64 k.st] 53)).alloc (.cells #[.int .i64 0,.slice none 0 0,.slice none 0 0,.int .i64 0] 53)=W:=⟨_,rfl⟩
 obtain ⟨kw,xa,xb,zw⟩:=two4x hW
 have HW:Hid ((w.alloc (.cells #[.int .i64 k.pc,.slice s1 k.regs.length c1,.slice s2 k.vw.length c2,.int .i64 k.st] 53)).alloc (.cells #[.int .i64 0,.slice none 0 0,.slice none 0 0,.int .i64 0] 53)=W):=hW
 have XA:Hid (X4 W w.heap.size (.int .i64 k.pc) (.slice s1 k.regs.length c1) (.slice s2 k.vw.length c2) (.int .i64 k.st)):=xa
 have XB:Hid (X4 W (w.heap.size+1) (.int .i64 0) (.slice none 0 0) (.slice none 0 0) (.int .i64 0)):=xb
 have KW:Hid (Below w.heap.size w W):=kw
 have zW:w.heap.size+2≤W.heap.size:=by omega
 have HR1:Hid (IntsR W lo hi s1 k.regs):=H1.out.keep (Keep.of_below kw hB)
 have zW':=zw
 clear hW kw xa xb zw
 go_wp2_with ((at_builtin;rw [HW.out];refine app_copyI rfl _ _ rfl rfl W W.heap.size none 0 (by first | rfl | (rw [zW'];rfl)) (World.ownsRow_nil _ _ _ _) s1 c1 k.regs (by rfl) (HR1.out) (by omega) (Nat.le_refl _) ?_;intro a1 b1 w1 ho1 hc1;have O1:=(show Hid (OwnN w1 W.heap.size (.slice a1 k.regs.length b1) k.regs) from ho1);have kl:=(show Below W.heap.size W w1 from hc1.low);have K1:=(show Hid (Below W.heap.size W w1) from kl);have YA:=(show Hid (X4 w1 w.heap.size (.int .i64 k.pc) (.slice s1 k.regs.length c1) (.slice s2 k.vw.length c2) (.int .i64 k.st)) from XA.out.keep kl (by omega));have YB:=(show Hid (X4 w1 (w.heap.size+1) (.int .i64 0) (.slice none 0 0) (.slice none 0 0) (.int .i64 0)) from XB.out.keep kl (by omega));have ya:=YA.out.x.c1;have ya2:=YA.out.x.c2;have yf:=YA.out.fz 1;have za:=YA.out.x.z;clear ho1 hc1 kl))
 obtain ⟨V,hV⟩:∃ V,w1.setCell ⟨w.heap.size,1,none⟩ (.slice a1 k.regs.length b1)=V:=⟨_,rfl⟩
 have VA:Hid (X4 V w.heap.size (.int .i64 k.pc) (.slice a1 k.regs.length b1) (.slice s2 k.vw.length c2) (.int .i64 k.st)):=by rw [← hV];exact YA.out.set1
 have VB:Hid (X4 V (w.heap.size+1) (.int .i64 0) (.slice none 0 0) (.slice none 0 0) (.int .i64 0)):=by rw [← hV];exact YB.out.off (by omega)
 have vs:V.heap.size=w1.heap.size:=by rw [← hV];simp
 have k1s:=K1.out.size
 have KV:Hid (Below w.heap.size w V):=by rw [← hV];exact (KW.out.trans (K1.out.mono (by omega))).setCell (p:=⟨w.heap.size,1,none⟩) (Nat.le_refl _) _
 have OV:Hid (OwnN V W.heap.size (.slice a1 k.regs.length b1) k.regs):=by
  rw [← hV]
  exact ownKeep' O1.out (fun b hb=>Below.heap_setCell _ _ _ b (by have:=(World.ownsRow.lt O1.out _ hb).1;simp;omega))
 have HR2:Hid (IntsR V lo hi s2 k.vw):=H2.out.keep (Keep.of_below KV.out hB)
 have zV:w.heap.size+2≤V.heap.size:=by omega
 rw [hV]
 obtain ⟨va0,va1,va2,va3,va4⟩:=VA.out.x
 have vf:=VA.out.fz
 clear hV ya ya2 yf za YA YB O1 K1 vs
 refine (copied_any s2 c2 lo hi k.vw V HR2.out (by omega) (by omega)).mono ?_
 rintro e w2 ⟨rfl,ho2,hb2⟩
 obtain ⟨G,hG,g1,g2⟩:∃ G,V.heap.size=G∧V.heap.size≤G∧G≤V.heap.size:=⟨_,rfl,Nat.le_refl _,Nat.le_refl _⟩
 obtain ⟨a2,ha2⟩:∃ a,some (⟨G,0,none⟩:Addr)=a:=⟨_,rfl⟩
 obtain ⟨b2,hb2'⟩:∃ b,k.vw.length=b:=⟨_,rfl⟩
 have P2:Hid (OwnN w2 V.heap.size (.slice a2 k.vw.length b2) k.vw):=by rw [← ha2,← hb2',← hG];exact ho2
 have K2:Hid (Below V.heap.size V w2):=hb2
 have er:(Value.slice (some ⟨V.heap.size,0,none⟩) k.vw.length k.vw.length)=.slice a2 k.vw.length b2:=by rw [hG,ha2,← hb2']
 rw [er]
 clear ho2 hb2 hG er ha2 hb2'
 have KK:Hid (Below w.heap.size w w2):=KV.out.trans (K2.out.mono (by omega))
 have ZA:Hid (X4 w2 w.heap.size (.int .i64 k.pc) (.slice a1 k.regs.length b1) (.slice s2 k.vw.length c2) (.int .i64 k.st)):=VA.out.keep K2.out (by omega)
 have ZB:Hid (X4 w2 (w.heap.size+1) (.int .i64 0) (.slice none 0 0) (.slice none 0 0) (.int .i64 0)):=VB.out.keep K2.out (by omega)
 have P1:Hid (OwnN w2 W.heap.size (.slice a1 k.regs.length b1) k.regs):=ownKeep' OV.out (fun b hb=>K2.out.block b (World.ownsRow.lt OV.out _ hb).2)
 have SP:Hid (∀ q,(Value.slice a1 k.regs.length b1).ownBlock=some q→(Value.slice a2 k.vw.length b2).ownBlock≠some q):=fun q h1 h2=>by
  have:=(World.ownsRow.lt OV.out _ h1).2
  have:=(World.ownsRow.lt P2.out _ h2).1
  omega
 clear va1 va2 va3 va4 vf
 obtain ⟨za0,za1,za2,za3,za4⟩:=ZA.out.x
 have zf:=ZA.out.fz
 obtain ⟨yb0,yb1,yb2,yb3,yb4⟩:=ZB.out.x
 have yf2:=ZB.out.fz
 have zz2:=K2.out.size
 go_wp2
 obtain ⟨Z,hZ,xz,kz,sz,fz⟩:∃ Z,((((w2.setCell ⟨w.heap.size,2,none⟩ (.slice a2 k.vw.length b2)).setCell ⟨w.heap.size+1,0,none⟩ (.int .i64 k.pc)).setCell ⟨w.heap.size+1,1,none⟩ (.slice a1 k.regs.length b1)).setCell ⟨w.heap.size+1,2,none⟩ (.slice a2 k.vw.length b2)).setCell ⟨w.heap.size+1,3,none⟩ (.int .i64 k.st)=Z∧X4 Z (w.heap.size+1) (.int .i64 k.pc) (.slice a1 k.regs.length b1) (.slice a2 k.vw.length b2) (.int .i64 k.st)∧Below w.heap.size w Z∧Z.heap.size=w2.heap.size∧∀ b,w.heap.size+2≤b→Z.heap[b]? =w2.heap[b]? :=by
  refine ⟨_,rfl,(ZB.out.off (by omega)).set0.set1.set2.set3,?_,by simp,fun b hb=>?_⟩
  ·refine Below.setCell (Below.setCell (Below.setCell (Below.setCell (Below.setCell KK.out ?_ _) ?_ _) ?_ _) ?_ _) ?_ _<;>simp
  ·rw [Below.heap_setCell _ _ _ b (by simp;omega),Below.heap_setCell _ _ _ b (by simp;omega),Below.heap_setCell _ _ _ b (by simp;omega),Below.heap_setCell _ _ _ b (by simp;omega),Below.heap_setCell _ _ _ b (by simp;omega)]
 have o1:OwnN Z w.heap.size (.slice a1 k.regs.length b1) k.regs:=by
  have o:OwnN w2 w.heap.size (.slice a1 k.regs.length b1) k.regs:=ownLow' P1.out (by omega)
  exact ownKeep' o (fun b hb=>fz b (by have:=(World.ownsRow.lt P1.out _ hb).1;omega))
 have o2:OwnN Z w.heap.size (.slice a2 k.vw.length b2) k.vw:=by
  have o:OwnN w2 w.heap.size (.slice a2 k.vw.length b2) k.vw:=ownLow' P2.out (by omega)
  exact ownKeep' o (fun b hb=>fz b (by have:=(World.ownsRow.lt P2.out _ hb).1;omega))
 refine bodyPost_ret (v:=.agg #[.int .i64 k.pc,.slice a1 k.regs.length b1,.slice a2 k.vw.length b2,.int .i64 k.st]) ?_ rfl ?_
 ·rw [hZ]
  simp [results,Tryz.results96,go_sem,xz.x.c0,xz.x.c1,xz.x.c2,xz.x.c3]
 ·rw [hZ]
  exact ⟨a1,b1,a2,b2,rfl,o1,o2,SP.out,kz,by omega⟩
end
section
set_option linter.unusedSimpArgs false
set_option linter.unusedVariables false
set_option maxRecDepth 100000
open Go.RowKit
theorem emptyD {w:World} {p base:Nat} (h:w.heap[p]? =some (.cells #[] 105 (0,0))) (hb:base≤p):OwnD w base (.slice (some ⟨p,0,none⟩) 0 0) []:=⟨rfl,.inr ⟨p,0,#[],rfl,hb,h,Nat.le_refl _,Nat.zero_le _,rfl,rfl⟩⟩
theorem own_ty {w:World} {base size n k:Nat} {e:TypeId} {v:Value} {xs:List Value} (h:w.ownsRow base e size v n xs) (hk:v.ownBlock=some k):∃ cs f,w.heap[k]? =some (.cells cs e f):=by
 rcases h.2 with ⟨rfl,-⟩ | ⟨g,cap,cur,rfl,-,c,-⟩
 ·cases hk
 ·simp only [Value.ownBlock,Option.some.injEq] at hk
  subst hk
  exact ⟨_,_,c⟩
theorem X4.blk {w w':World} {b:Nat} {v0 v1 v2 v3:Value} (h:X4 w b v0 v1 v2 v3) (hk:w'.heap[b]? =w.heap[b]?) (hs:w.heap.size≤w'.heap.size):X4 w' b v0 v1 v2 v3:=
 ⟨⟨Nat.lt_of_lt_of_le h.x.z hs,(World.cell?_of_block (w:=w) hk).trans h.x.c0,(World.cell?_of_block (w:=w) hk).trans h.x.c1,(World.cell?_of_block (w:=w) hk).trans h.x.c2,(World.cell?_of_block (w:=w) hk).trans h.x.c3⟩,fun j=>(World.frozen?_of_block (w:=w) hk).trans (h.fz j)⟩
/- what grows by a core: the rest of the machine stays -/
theorem MQ0.grow {w w6 : World} {B g cap : Nat} {vc v vm vt : Value} {LC : List CV} {L : List KV} {S : List RS} {d' : MD} {y : KV} (hc : OwnC w B vc LC) (ec : LC.map CV.l = d'.codes) (hm : OW w B vm S d'.mem) (ht : OwnD w B vt d'.tr) (hk : OwnK w B v L) (hsk : ∀ (i : Nat) (x : KV) (q : Nat), L[i]? = some x → (x.r.ownBlock = some q ∨ x.v.ownBlock = some q) → ∀ a ∈ mAs S, a.block ≠ q)
  (hsy:∀ q,(y.r.ownBlock=some q∨y.v.ownBlock=some q)→∀ a∈mAs S,a.block≠q) (ek:(L++[y]).map KV.d=d'.cores) (hp:PushedK w w6 B v L y g cap) (hs:w.heap.size≤w6.heap.size):MQ0 w6 B vc (.slice (some ⟨g,0,none⟩) (L.length+1) cap) vm vt LC (L++[y]) S d':=by
 have ne:∀ {e:TypeId} {size n:Nat} {u:Value} {xs:List Value},w.ownsRow B e size u n xs→e≠53→∀ k,u.ownBlock=some k→w6.heap[k]? =w.heap[k]? :=fun hu he k hk'=>hp.far k (World.ownsRow.lt hu _ hk').2 (ownType' hu hk.row he hk')
 refine ⟨⟨ownKeep' hc.row (ne hc.row (by decide)),fun i x hx=>ownKeep' (hc.inn i x hx) (ne (hc.inn i x hx) (by decide)),hc.sep⟩,ec,hp.own,ek,⟨hm.n,ownKeep' hm.row (ne hm.row (by decide)),fun i r l hr hl=>?_,hm.d⟩,ownKeep' ht (ne ht (by decide)),fun i x q hx hq=>?_⟩
 ·have q:=hm.r i r l hr hl
  refine q.kept (ne q.own (by decide)) (fun a ha=>hp.far _ (q.blk ha).2 (fun e=>?_)) hs
  obtain ⟨cs,f,c⟩:=own_ty hk.row e
  obtain ⟨cs',f',c'⟩:=q.vt a ha
  rw [c] at c'
  injection c' with c'
  injection c' with _ c'
  exact absurd c' (by decide)
 ·rcases push_get hx with hx | ⟨-,rfl⟩
  ·exact hsk i x q hx hq
  ·exact hsy q hq
theorem MQ0.off {w w':World} {B b:Nat} {vc vk vm vt:Value} {LC:List CV} {LK:List KV} {S:List RS} {d:MD} (h:MQ0 w B vc vk vm vt LC LK S d) (ht:BxT w b) (hb:∀ k,k≠b→w'.heap[k]? =w.heap[k]?) (hs:w.heap.size≤w'.heap.size):MQ0 w' B vc vk vm vt LC LK S d:=⟨h.c.off ht hb,h.ec,h.k.off ht hb,h.ek,h.m.off ht hb hs,OwnD.off h.t ht hb,h.sk⟩
theorem OW.memblk {w:World} {B:Nat} {v:Value} {S:List RS} {m:List (List WD)} (h:OW w B v S m) {a:Addr} (ha:a∈mAs S):a.block < w.heap.size:=(h.om.blk ha).2
/- what the making of a machine's parts leaves: the box of the copy, its parts but for the cores -/
def CutM (W:World) (d:MD) (s3:Value) (wx:World):Prop:=
 ∃ (bo:Nat) (sC:Option Addr) (cC:Nat) (LC:List CV) (sM:Option Addr) (cM:Nat) (S:List RS) (sA:Option Addr) (cA:Nat),s3=.pointer (some ⟨bo,0,none⟩)∧W.heap.size≤bo∧X4 wx bo (.slice sC d.codes.length cC) (.slice none 0 0) (.slice sM d.mem.length cM) (.slice sA d.tr.length cA)∧BxT wx bo∧LC.map CV.l=d.codes∧OwnC wx W.heap.size (.slice sC d.codes.length cC) LC∧OW wx W.heap.size (.slice sM d.mem.length cM) S d.mem∧OwnD wx W.heap.size (.slice sA d.tr.length cA) d.tr∧Below W.heap.size W wx
theorem cut_set {W wA : World} {d : MD} {bo : Nat} {sC sM sA : Option Addr} {cC cM cA : Nat} {LC : List CV} {S : List RS} (hx : X4 wA bo (.slice none 0 0) (.slice none 0 0) (.slice none 0 0) (.slice none 0 0) ∧ BxT wA bo) (hbo : W.heap.size ≤ bo) (kA : Below W.heap.size W wA) (EC : LC.map CV.l = d.codes) (OC : OwnC wA W.heap.size (.slice sC d.codes.length cC) LC) (OM : OW wA W.heap.size (.slice sM d.mem.length cM) S d.mem) (OT : OwnD wA W.heap.size (.slice sA d.tr.length cA) d.tr) :
  CutM W d (.pointer (some ⟨bo,0,none⟩)) ((((wA.setCell ⟨bo,0,none⟩ (.slice sC d.codes.length cC)).setCell ⟨bo,1,none⟩ (.slice none 0 0)).setCell ⟨bo,2,none⟩ (.slice sM d.mem.length cM)).setCell ⟨bo,3,none⟩ (.slice sA d.tr.length cA)):=by
 have far:∀ k,k≠bo→((((wA.setCell ⟨bo,0,none⟩ (.slice sC d.codes.length cC)).setCell ⟨bo,1,none⟩ (.slice none 0 0)).setCell ⟨bo,2,none⟩ (.slice sM d.mem.length cM)).setCell ⟨bo,3,none⟩ (.slice sA d.tr.length cA)).heap[k]? =wA.heap[k]? :=fun k hk=>by
  rw [Below.heap_setCell _ _ _ k hk,Below.heap_setCell _ _ _ k hk,Below.heap_setCell _ _ _ k hk,Below.heap_setCell _ _ _ k hk]
 refine ⟨bo,sC,cC,LC,sM,cM,S,sA,cA,rfl,hbo,hx.1.set0.set1.set2.set3,hx.2.set.set.set.set,EC,OC.off hx.2 far,OM.off hx.2 far (by simp),OT.off hx.2 far,?_⟩
 refine Below.setCell (Below.setCell (Below.setCell (Below.setCell kA ?_ _) ?_ _) ?_ _) ?_ _<;>exact hbo
theorem cut_new {W wA : World} {d : MD} {sC sM sA : Option Addr} {cC cM cA : Nat} {LC : List CV} {S : List RS} (kA : Below W.heap.size W wA) (EC : LC.map CV.l = d.codes) (OC : OwnC wA W.heap.size (.slice sC d.codes.length cC) LC) (OM : OW wA W.heap.size (.slice sM d.mem.length cM) S d.mem) (OT : OwnD wA W.heap.size (.slice sA d.tr.length cA) d.tr) :
  CutM W d (.pointer (some ⟨wA.heap.size,0,none⟩)) (wA.alloc (.cells #[.slice sC d.codes.length cC,.slice none 0 0,.slice sM d.mem.length cM,.slice sA d.tr.length cA] 38)):=by
 have kn:Below wA.heap.size wA (wA.alloc (.cells #[.slice sC d.codes.length cC,.slice none 0 0,.slice sM d.mem.length cM,.slice sA d.tr.length cA] 38)):=(Below.refl _ _).alloc (Nat.le_refl _) _
 have q:=X4.zero wA (.slice sC d.codes.length cC) (.slice none 0 0) (.slice sM d.mem.length cM) (.slice sA d.tr.length cA)
 exact ⟨wA.heap.size,sC,cC,LC,sM,cM,S,sA,cA,rfl,kA.size,q.1,q.2,EC,OC.below kn,OM.below kn,ownKeep' OT (fun k hk=>kn.block k (World.ownsRow.lt OT _ hk).2),kA.trans (kn.mono kA.size)⟩
theorem bx_keep {w w':World} {b B:Nat} {v0 v1 v2 v3:Value} (h:X4 w b v0 v1 v2 v3∧BxT w b) (hb:Below B w w') (hB:b < B):X4 w' b v0 v1 v2 v3∧BxT w' b:=by
 obtain ⟨cs,f,c⟩:=h.2
 exact ⟨h.1.keep hb hB,cs,f,(hb.block b hB).trans c⟩
theorem entsameMachineK (args:Array Value) (w:World):(callFunc 96 args).run Tryz.prog w=.ok (.enter 96 args) w:=by kernel_rfl
set_option maxHeartbeats 4000000 in
theorem sameMachine_any (s1 s2 s3 s4 : Option Addr) (c1 c2 c3 c4 lo hi : Nat) (d : MD) (w : World) (h : MaR w lo hi s1 s2 s3 s4 d) (hB : hi ≤ w.heap.size) (hf : MaSz d ≤ 1048576) :
  Calls Tryz.prog 68 #[.agg #[.slice s1 d.codes.length c1,.slice s2 d.cores.length c2,.slice s3 d.mem.length c3,.slice s4 d.tr.length c4]] w fun e w'=>∃ vc vk vm vt LC LK S,e=.returned (.agg #[vc,vk,vm,vt])∧MQ0 w' w.heap.size vc vk vm vt LC LK S d∧Below w.heap.size w w'∧w.heap.size < w'.heap.size:=by
 have H:Hid (MaR w lo hi s1 s2 s3 s4 d):=h
 have F1:d.codes.length+szC d.codes≤1048576:=by unfold MaSz at hf;omega
 have F2:d.cores.length+szK d.cores≤1048576:=by unfold MaSz at hf;omega
 have F3:MFits d.mem:=by unfold MaSz at hf;unfold MFits;omega
 have F4:d.tr.length≤1048576:=by unfold MaSz at hf;omega
 have HVK:Hid (∀ (i:Nat) (x:KD),d.cores[i]? =some x→x.regs.length+x.vw.length≤1048576):=fun i x hx=>by have:=szK_at d.cores i x hx;omega
 clear h hf
 go_enter Tryz.func68,Tryz.ntmps68
 go_upto_region 1 with fail
 obtain ⟨W,hW⟩:∃ W,(w.alloc (.cells #[.slice s1 d.codes.length c1,.slice s2 d.cores.length c2,.slice s3 d.mem.length c3,.slice s4 d.tr.length c4] 38)).alloc (.cells #[.slice none 0 0,.slice none 0 0,.slice none 0 0,.slice none 0 0] 38)=W:=⟨_,rfl⟩
 obtain ⟨kw,xa,xb,zw⟩:=two4x hW
 rw [hW]
 have XA:Hid (X4 W w.heap.size (.slice s1 d.codes.length c1) (.slice s2 d.cores.length c2) (.slice s3 d.mem.length c3) (.slice s4 d.tr.length c4)):=xa
 have XB:Hid (X4 W (w.heap.size+1) (.slice none 0 0) (.slice none 0 0) (.slice none 0 0) (.slice none 0 0)):=xb
 have KW:Hid (Below w.heap.size w W):=kw
 have zW:w.heap.size+2≤W.heap.size:=by omega
 have RR:Hid (∀ X,Below W.heap.size W X→MaR X lo hi s1 s2 s3 s4 d):=fun X hX=>(H.out.keep (Keep.of_below KW.out hB)).keep (Keep.of_below hX (by omega))
 have RB:Hid (∀ X,Below W.heap.size W X→X4 X w.heap.size (.slice s1 d.codes.length c1) (.slice s2 d.cores.length c2) (.slice s3 d.mem.length c3) (.slice s4 d.tr.length c4)):=fun X hX=>XA.out.keep hX (by omega)
 obtain ⟨p0,p1,p2,p3,p4⟩:=xa.x
 clear hW kw xa xb zw
 have kD:Below W.heap.size W W.drew:=Below.drew (Below.refl _ _)
 have hdr:∀ X:World,X.drew.heap.size=X.heap.size:=fun _=>rfl
 have nW:¬ W.heap.size=w.heap.size:=by omega
 have nW':¬ w.heap.size=W.heap.size:=by omega
 go_cut [3] (fun s3 wx=>CutM W d s3 wx)
 case first=>
  go_region_held3 (fun w'=>w'.cell? ⟨w.heap.size,0,none⟩=some (.slice s1 d.codes.length c1)∧w'.cell? ⟨w.heap.size,2,none⟩=some (.slice s3 d.mem.length c3)∧w'.cell? ⟨w.heap.size,3,none⟩=some (.slice s4 d.tr.length c4)) (go_keep) (first | (go_at_call 94;refine (sameCodes_any s1 c1 lo hi d.codes _ (RR.out _ (by first | exact kD | exact kD.alloc (Nat.le_refl _) _)).1 (Nat.le_trans (by omega) (show W.heap.size≤_ from (show Below W.heap.size W _ from (by first | exact kD | exact kD.alloc (Nat.le_refl _) _)).size)) F1).mono ?_;rintro e wC ⟨vc,LC,rfl,hmC,hoC,hbC⟩;obtain ⟨sC,cC,evC⟩:=ownSl hoC.row;rw [show LC.length=d.codes.length from (by have:=congrArg List.length hmC;simpa using this)] at evC;subst evC;have kC:Below W.heap.size W wC:=(show Below W.heap.size W _ from (by first | exact kD | exact kD.alloc (Nat.le_refl _) _)).trans (hbC.mono (show Below W.heap.size W _ from (by first | exact kD | exact kD.alloc (Nat.le_refl _) _)).size);have nC:¬ wC.heap.size=w.heap.size:=(by have:=kC.size;omega);have nC':¬ w.heap.size=wC.heap.size:=(by have:=kC.size;omega);have EC:=(show Hid (LC.map CV.l=d.codes) from hmC);have OC:=(show Hid (OwnC wC W.heap.size (.slice sC d.codes.length cC) LC) from hoC.low (show Below W.heap.size W _ from (by first | exact kD | exact kD.alloc (Nat.le_refl _) _)).size);have xC:=(RB.out _ kC).x;have rC:=(fun (b o:Nat) hb=>hbC.cell (p:=⟨b,o,none⟩) hb);have fC:=(fun (b o:Nat) hb=>hbC.frozen (p:=⟨b,o,none⟩) hb);have gC:=(fun (b:Nat) hb=>Nat.lt_of_lt_of_le (n:=b) hb hbC.size);have zC:=hbC.size;(try simp only [World.size_alloc,hdr] at rC);(try simp only [World.size_alloc,hdr] at fC);(try simp only [World.size_alloc,hdr] at gC);have lC:=(show Hid _ from hbC);clear hmC hoC hbC;obtain ⟨xC0,xC1,xC2,xC3,xC4⟩:=xC) | (go_at_call 95;refine (sameMemory_any s3 c3 lo hi d.mem _ (RR.out _ (by first | exact kC | exact kC.alloc kC.size _)).2.2.1 (Nat.le_trans (show hi≤W.heap.size by omega) (show Below W.heap.size W _ from (by first | exact kC | exact kC.alloc kC.size _)).size) F3).mono ?_;rintro e wM ⟨vm,S,rfl,hoM,hbM⟩;obtain ⟨sM,cM,evM,-⟩:=hoM.om.mo;subst evM;have kM:Below W.heap.size W wM:=(show Below W.heap.size W _ from (by first | exact kC | exact kC.alloc kC.size _)).trans (hbM.mono (show Below W.heap.size W _ from (by first | exact kC | exact kC.alloc kC.size _)).size);have nM:¬ wM.heap.size=w.heap.size:=(by have:=kM.size;omega);have nM':¬ w.heap.size=wM.heap.size:=(by have:=kM.size;omega);have OM:=(show Hid (OW wM W.heap.size (.slice sM d.mem.length cM) S d.mem) from hoM.low (show Below W.heap.size W _ from (by first | exact kC | exact kC.alloc kC.size _)).size);have xM:=(RB.out _ kM).x;have rM:=(fun (b o:Nat) hb=>hbM.cell (p:=⟨b,o,none⟩) hb);have fM:=(fun (b o:Nat) hb=>hbM.frozen (p:=⟨b,o,none⟩) hb);have gM:=(fun (b:Nat) hb=>Nat.lt_of_lt_of_le (n:=b) hb hbM.size);have zM:=hbM.size;(try simp only [World.size_alloc,hdr] at rM);(try simp only [World.size_alloc,hdr] at fM);(try simp only [World.size_alloc,hdr] at gM);have lCM:wC.heap.size≤wM.heap.size:=Nat.le_trans (show wC.heap.size≤_ by first | exact Nat.le_refl _ | (simp;done) | (simp;omega)) zM;have kCM:=(show Below wC.heap.size wC wM from (show Below wC.heap.size wC _ from (by first | exact Below.refl _ _ | exact (Below.refl _ _).alloc (Nat.le_refl _) _)).trans (hbM.mono (show wC.heap.size≤_ by first | exact Nat.le_refl _ | (simp;done) | (simp;omega))));have gCM:=(fun (b:Nat) hb=>Nat.lt_of_lt_of_le (gC b hb) lCM);have lM:=(show Hid _ from hbM);clear hoM hbM;obtain ⟨xM0,xM1,xM2,xM3,xM4⟩:=xM) | (refine step_copyD rfl _ _ rfl rfl _ W.heap.size none 0 rfl (World.ownsRow_nil _ _ _ _) s4 c4 d.tr (by rfl) (RR.out _ (by first | exact kM | exact kM.alloc kM.size _)).2.2.2 (by omega) ((show Below W.heap.size W _ from (by first | exact kM | exact kM.alloc kM.size _)).size) ?_;intro sA cA wA hoA hcA;have kA:Below W.heap.size W wA:=(show Below W.heap.size W _ from (by first | exact kM | exact kM.alloc kM.size _)).trans hcA.low;have nA:¬ wA.heap.size=w.heap.size:=(by have:=kA.size;omega);have nA':¬ w.heap.size=wA.heap.size:=(by have:=kA.size;omega);have OT:=(show Hid (OwnD wA W.heap.size (.slice sA d.tr.length cA) d.tr) from hoA);have hbA:=(show Below _ _ wA from ⟨hcA.low.os,hcA.low.tape,hcA.low.output,hcA.low.size,fun b hb=>hcA.far b hb (fun e=>by cases e)⟩);have kMA:=(show Below wM.heap.size wM wA from (show Below wM.heap.size wM _ from (by first | exact Below.refl _ _ | exact (Below.refl _ _).alloc (Nat.le_refl _) _)).trans (hbA.mono (show wM.heap.size≤_ by first | exact Nat.le_refl _ | (simp;done) | (simp;omega))));have PC:=(show Hid (OwnC wA W.heap.size (.slice sC d.codes.length cC) LC) from (OC.out.below kCM).below kMA);have PM:=(show Hid (OW wA W.heap.size (.slice sM d.mem.length cM) S d.mem) from OM.out.below kMA);have xA:=(RB.out _ kA).x;have rA:=(fun (b o:Nat) hb=>hbA.cell (p:=⟨b,o,none⟩) hb);have fA:=(fun (b o:Nat) hb=>hbA.frozen (p:=⟨b,o,none⟩) hb);have gA:=(fun (b:Nat) hb=>Nat.lt_of_lt_of_le (n:=b) hb hbA.size);have zA:=hbA.size;(try simp only [World.size_alloc,hdr] at rA);(try simp only [World.size_alloc,hdr] at fA);(try simp only [World.size_alloc,hdr] at gA);have lA:=(show Hid _ from hbA);clear hoA hcA hbA;obtain ⟨xA0,xA1,xA2,xA3,xA4⟩:=xA))
  all_goals
   go_wp2_with fail
   go_meet
   first
     | with_reducible exact cut_new kA EC.out PC.out PM.out OT.out
     | (with_reducible refine cut_set (bo := wM.heap.size) ?_ kM.size kA EC.out PC.out PM.out OT.out
        exact bx_keep (X4.zero wM _ _ _ _) lA.out (by simp))
     | (with_reducible refine cut_set (bo := wC.heap.size) ?_ kC.size kA EC.out PC.out PM.out OT.out
        exact bx_keep (bx_keep (X4.zero wC _ _ _ _) lM.out (by simp)) kMA (gM _ (by simp)))
     | (with_reducible refine cut_set (bo := W.heap.size) ?_ (Nat.le_refl _) kA EC.out PC.out PM.out OT.out
        exact bx_keep (bx_keep (bx_keep (X4.zero W.drew _ _ _ _) lC.out (by simp [hdr])) kCM (gC _ (by simp))) kMA (gCM _ (by simp)))
 case rest=>
  obtain ⟨bo,sC,cC,LC,sM,cM,S,sA,cA,rfl,hbo,hx,hT,hE,hC,hM,hD,hK⟩:=hcut
  have B1:=(RB.out _ hK).x
  obtain ⟨m0,m1,m2,m3,m4⟩:=B1
  have HK:Hid (Below W.heap.size W wc):=hK
  have HX0:Hid (X4 wc bo (.slice sC d.codes.length cC) (.slice none 0 0) (.slice sM d.mem.length cM) (.slice sA d.tr.length cA)):=hx
  have HT0:Hid (BxT wc bo):=hT
  have HQ0:Hid (MQ0 wc W.heap.size (.slice sC d.codes.length cC) (.slice none 0 0) (.slice sM d.mem.length cM) (.slice sA d.tr.length cA) LC [] S ⟨d.codes,[],d.mem,d.tr⟩):=⟨hC,hE,OwnK.nil _ _,rfl,hM,hD,fun i x q hx=>by simp at hx⟩
  clear hx hT hE hC hM hD hK p1 p2 p3 p4 kD
  go_wp2
  go_loopw [19] (fun i wr=>∃ (k:Nat) (v:Value) (L:List KV),k≤d.cores.length∧i=.int .i64 k∧L.length=k∧MQ0 wr W.heap.size (.slice sC d.codes.length cC) v (.slice sM d.mem.length cM) (.slice sA d.tr.length cA) LC L S ⟨d.codes,d.cores.take k,d.mem,d.tr⟩∧X4 wr bo (.slice sC d.codes.length cC) v (.slice sM d.mem.length cM) (.slice sA d.tr.length cA)∧BxT wr bo∧Below W.heap.size W wr) (fun i _=>d.cores.length - (intOf i).toNat)
  case atStart=>exact ⟨0,_,[],Nat.zero_le _,rfl,rfl,HQ0.out,HX0.out,HT0.out,HK.out⟩
  case round=>
   obtain ⟨k,v,L,hk,rfl,hL,hq,hx,ht,hb⟩:=hrel
   obtain ⟨sv,cv,ev⟩:=ownSl hq.k.row
   rw [hL] at ev
   subst ev
   have HQ:Hid (MQ0 wr W.heap.size (.slice sC d.codes.length cC) (.slice sv k cv) (.slice sM d.mem.length cM) (.slice sA d.tr.length cA) LC L S ⟨d.codes,d.cores.take k,d.mem,d.tr⟩):=hq
   have HX:Hid (X4 wr bo (.slice sC d.codes.length cC) (.slice sv k cv) (.slice sM d.mem.length cM) (.slice sA d.tr.length cA)):=hx
   have HT:Hid (BxT wr bo):=ht
   have HB:Hid (Below W.heap.size W wr):=hb
   have HL:Hid (L.length=k):=hL
   obtain ⟨y0,y1,y2,y3,y4⟩:=hx.x
   have yf:=hx.fz
   have zr:=hb.size
   have B1:=(RB.out _ hb).x
   clear m0 m1 m2 m3 m4
   obtain ⟨m0,m1,m2,m3,m4⟩:=B1
   clear hq hx ht hL
   by_cases hlt:k < d.cores.length
   ·obtain ⟨x,hx⟩:∃ x,d.cores[k]? =some x:=⟨_,List.getElem?_eq_getElem hlt⟩
    obtain ⟨g,o,t1,e1,t2,e2,es,q1,q2,f0,f1,f2,f3,q5,q6⟩:=(RR.out _ hb).2.1.at hx
    subst es
    have hv:=HVK.out k x hx
    have HXk:Hid (d.cores[k]? =some x):=hx
    have Q5:Hid (IntsR wr lo hi t1 x.regs):=q5
    have Q6:Hid (IntsR wr lo hi t2 x.vw):=q6
    clear q5 q6 hx hb
    have b0:(0:Int)≤(k:Int):=by omega
    have b1:(k:Int) < (d.cores.length:Int):=by omega
    have zg:g < wr.heap.size:=by omega
    go_wp2_with fail
    obtain ⟨U,hU,bu,ku,zu⟩:=X4.new wr (.int .i64 x.pc) (.slice t1 x.regs.length e1) (.slice t2 x.vw.length e2) (.int .i64 x.st) 53
    rw [hU]
    clear hU
    obtain ⟨v0,v1,v2,v3,v4⟩:=bu.x
    have hne:¬ wr.heap.size=bo:=by omega
    have uX:=HX.out.keep ku y0
    have UX:Hid (X4 U bo (.slice sC d.codes.length cC) (.slice sv k cv) (.slice sM d.mem.length cM) (.slice sA d.tr.length cA)):=uX
    have y1u:=uX.x.c1
    have yfu:=uX.fz 1
    have zbu:bo < U.heap.size:=uX.x.z
    have UT:Hid (BxT U bo):=by obtain ⟨cs,f,c⟩:=HT.out;exact ⟨cs,f,(ku.block bo y0).trans c⟩
    have UQ:Hid (MQ0 U W.heap.size (.slice sC d.codes.length cC) (.slice sv k cv) (.slice sM d.mem.length cM) (.slice sA d.tr.length cA) LC L S ⟨d.codes,d.cores.take k,d.mem,d.tr⟩):=HQ.out.keep (fun b _ hb=>ku.block b hb) ku.size
    have UB:Hid (Below W.heap.size W U):=HB.out.trans (ku.mono zr)
    have R5:Hid (IntsR U lo hi t1 x.regs):=Q5.out.keep (Keep.of_below ku (by omega))
    have R6:Hid (IntsR U lo hi t2 x.vw):=Q6.out.keep (Keep.of_below ku (by omega))
    have zU:W.heap.size≤U.heap.size:=UB.out.size
    have hiU:hi≤U.heap.size:=by omega
    have HLn:L.length≤1073741824:=by have:=HL.out;omega
    clear ku uX y1 y2 y3 y4 yf m1 m2 m3 m4 f0 f1 f2 f3
    go_region_law (first | (refine step_call 96 #[.agg #[.int .i64 x.pc,.slice t1 x.regs.length e1,.slice t2 x.vw.length e2,.int .i64 x.st]] (by rfl) _ _ (by rfl) (by simp [go_sem]) entsameMachineK ?_;refine (sameCore_any x t1 t2 e1 e2 lo hi U.drew R5.out R6.out hiU (by omega) (by omega)).mono ?_;rintro e wK ⟨a1,b1',a2,b2,rfl,ho1,ho2,hsp,hbK,hzK⟩;refine ⟨_,rfl,?_⟩;have kK:=(show Below U.heap.size U wK from ⟨hbK.os,hbK.tape,hbK.output,hbK.size,hbK.block⟩);have O1:=(show Hid (OwnN wK U.heap.size (.slice a1 x.regs.length b1') x.regs) from ho1);have O2:=(show Hid (OwnN wK U.heap.size (.slice a2 x.vw.length b2) x.vw) from ho2);have SP:=(show Hid (∀ q,(Value.slice a1 x.regs.length b1').ownBlock=some q→(Value.slice a2 x.vw.length b2).ownBlock≠some q) from hsp);have KX:=(show Hid (X4 wK bo (.slice sC d.codes.length cC) (.slice sv k cv) (.slice sM d.mem.length cM) (.slice sA d.tr.length cA)) from UX.out.keep kK zbu);have kq1:=KX.out.x.c1;have kq2:=KX.out.fz 1;have kqz:=KX.out.x.z;have KQ:=(show Hid (MQ0 wK W.heap.size (.slice sC d.codes.length cC) (.slice sv k cv) (.slice sM d.mem.length cM) (.slice sA d.tr.length cA) LC L S ⟨d.codes,d.cores.take k,d.mem,d.tr⟩) from UQ.out.keep (fun b _ hb=>kK.block b hb) kK.size);have KB:=(show Hid (Below W.heap.size W wK) from UB.out.trans (kK.mono zU));have zK:U.heap.size≤wK.heap.size:=kK.size;have KT:=(show Hid (BxT wK bo) from (by obtain ⟨cs,f,c⟩:=UT.out;exact ⟨cs,f,(kK.block bo zbu).trans c⟩));clear ho1 ho2 hsp hbK hzK kK) | (refine step_recK rfl _ _ rfl wK W.heap.size (.slice sv k cv) L ⟨x,.slice a1 x.regs.length b1',.slice a2 x.vw.length b2⟩ rfl KQ.out.k ⟨ownLow' O1.out zU,ownLow' O2.out zU⟩ SP.out rfl rfl wK.heap.size rfl rfl HLn (by omega) (fun i z q hz h1 h2=>by have hu:U.heap.size≤q:=(by rcases h1 with h1 | h1;exact (World.ownsRow.lt O1.out _ h1).1;exact (World.ownsRow.lt O2.out _ h1).1);have hl:q < U.heap.size:=(by rcases h2 with h2 | h2;exact (World.ownsRow.lt (UQ.out.k.inn i z hz).1 _ h2).2;exact (World.ownsRow.lt (UQ.out.k.inn i z hz).2 _ h2).2);omega) ?_;intro g6 c6 w6 hp6;have P6:=(show Hid (PushedK wK w6 W.heap.size (.slice sv k cv) L ⟨x,.slice a1 x.regs.length b1',.slice a2 x.vw.length b2⟩ g6 c6) from hp6);have kbo:w6.heap[bo]? =wK.heap[bo]? :=hp6.far bo kqz (own_bx KQ.out.k.row (by decide) KT.out);have X6:=(show Hid (X4 w6 bo (.slice sC d.codes.length cC) (.slice sv k cv) (.slice sM d.mem.length cM) (.slice sA d.tr.length cA)) from KX.out.blk kbo hp6.low.size);have T6:=(show Hid (BxT w6 bo) from (by obtain ⟨cs,f,c⟩:=KT.out;exact ⟨cs,f,kbo.trans c⟩));have s1:=X6.out.x.c1;have s2:=X6.out.fz 1;have s0:=X6.out.x.z;have z6:wK.heap.size≤w6.heap.size:=hp6.low.size;clear hp6 kbo))
    all_goals
     have Q6':Hid (MQ0 w6 W.heap.size (.slice sC d.codes.length cC) (.slice (some ⟨g6,0,none⟩) (L.length+1) c6) (.slice sM d.mem.length cM) (.slice sA d.tr.length cA) LC (L++[⟨x,.slice a1 x.regs.length b1',.slice a2 x.vw.length b2⟩]) S ⟨d.codes,d.cores.take (k+1),d.mem,d.tr⟩):=by
      refine MQ0.grow KQ.out.c KQ.out.ec KQ.out.m KQ.out.t KQ.out.k KQ.out.sk (fun q hq a ha e=>?_) ?_ P6.out z6
      ·have h1:U.heap.size≤q:=by
        rcases hq with hq | hq
        ·exact (World.ownsRow.lt O1.out _ hq).1
        ·exact (World.ownsRow.lt O2.out _ hq).1
       have h2:=UQ.out.m.memblk ha
       omega
      ·show (L++[_]).map KV.d=d.cores.take (k+1)
       rw [List.map_append,List.take_add_one,HXk.out]
       have:=KQ.out.ek
       rw [this]
       rfl
     have B6:Hid (Below W.heap.size W w6):=KB.out.trans P6.out.low
     clear y1u yfu kq1 kq2
     go_wp2
     go_roundw
     case rel=>
      have far:∀ b,b≠bo→(w6.setCell ⟨bo,1,none⟩ (.slice (some ⟨g6,0,none⟩) (L.length+1) c6)).heap[b]? =w6.heap[b]? :=fun b hb=>Below.heap_setCell _ _ _ b hb
      exact ⟨k+1,_,_,by omega,by go_num,by simp [HL.out],Q6'.out.off T6.out far (by simp),X6.out.set1,T6.out.set,B6.out.setCell (p:=⟨bo,1,none⟩) hbo _⟩
     case measure=>simp [intOf];omega
   ·have xb:=XB.out.keep HB.out (show w.heap.size+1 < W.heap.size by omega)
    have RX:Hid (X4 wr (w.heap.size+1) (.slice none 0 0) (.slice none 0 0) (.slice none 0 0) (.slice none 0 0)):=xb
    obtain ⟨r0,r1,r2,r3,r4⟩:=xb.x
    have rf:=xb.fz
    have FQ:Hid (MQ0 wr W.heap.size (.slice sC d.codes.length cC) (.slice sv k cv) (.slice sM d.mem.length cM) (.slice sA d.tr.length cA) LC L S d):=by
     have q:=HQ.out
     rw [List.take_of_length_le (by omega)] at q
     exact q
    clear xb
    go_wp2
    obtain ⟨Z,hZ,xz,kz,sz,fz⟩:∃ Z,(((wr.setCell ⟨w.heap.size+1,0,none⟩ (.slice sC d.codes.length cC)).setCell ⟨w.heap.size+1,1,none⟩ (.slice sv k cv)).setCell ⟨w.heap.size+1,2,none⟩ (.slice sM d.mem.length cM)).setCell ⟨w.heap.size+1,3,none⟩ (.slice sA d.tr.length cA)=Z∧X4 Z (w.heap.size+1) (.slice sC d.codes.length cC) (.slice sv k cv) (.slice sM d.mem.length cM) (.slice sA d.tr.length cA)∧Below w.heap.size w Z∧Z.heap.size=wr.heap.size∧∀ b,b≠w.heap.size+1→Z.heap[b]? =wr.heap[b]? :=by
     refine ⟨_,rfl,RX.out.set0.set1.set2.set3,?_,by simp,fun b hb=>?_⟩
     ·refine Below.setCell (Below.setCell (Below.setCell (Below.setCell (KW.out.trans (HB.out.mono (by omega))) ?_ _) ?_ _) ?_ _) ?_ _<;>simp
     ·rw [Below.heap_setCell _ _ _ b hb,Below.heap_setCell _ _ _ b hb,Below.heap_setCell _ _ _ b hb,Below.heap_setCell _ _ _ b hb]
    have fin:MQ0 Z w.heap.size (.slice sC d.codes.length cC) (.slice sv k cv) (.slice sM d.mem.length cM) (.slice sA d.tr.length cA) LC L S d:=(FQ.out.keep (fun b h1 _=>fz b (by omega)) (by omega)).low (by omega)
    refine bodyPost_ret (v:=.agg #[.slice sC d.codes.length cC,.slice sv k cv,.slice sM d.mem.length cM,.slice sA d.tr.length cA]) ?_ rfl ?_
    ·rw [hZ]
     simp [results,Tryz.results68,go_sem,xz.x.c0,xz.x.c1,xz.x.c2,xz.x.c3]
    ·rw [hZ]
     exact ⟨_,_,_,_,LC,L,S,rfl,fin,kz,by omega⟩
end
section
set_option linter.unusedSimpArgs false
set_option linter.unusedVariables false
set_option maxRecDepth 100000
open Go.RowKit
theorem setKV_at {α:Type} {L:List α} {k i:Nat} {y z:α} (h:(L.set k y)[i]? =some z):(i=k∧z=y∧k < L.length)∨(i≠k∧L[i]? =some z):=by
 rw [List.getElem?_set] at h
 by_cases e:k=i
 ·subst e
  rw [if_pos rfl] at h
  split at h
  ·injection h with h
   exact .inl ⟨rfl,h.symm,by assumption⟩
  ·cases h
 ·rw [if_neg e] at h
  exact .inr ⟨Ne.symm e,h⟩
theorem flatK_set:∀ (L:List KV) (k:Nat) (x:KV),L[k]? =some x→∀ z:Int,(flatK L).set (k * 4) (.int .i64 z)=flatK (L.set k ⟨{ x.d with pc:=z },x.r,x.v⟩)∧(flatK L).set (k * 4+3) (.int .i64 z)=flatK (L.set k ⟨{ x.d with st:=z },x.r,x.v⟩)
 | [],k,x,h,z=>by simp at h
 | y::r,0,x,h,z=>by simp at h;subst h;exact ⟨rfl,rfl⟩
 | y::r,k+1,x,h,z=>by
  have q:=flatK_set r k x (by simpa using h) z
  have e1:(k+1) * 4=k * 4+1+1+1+1:=by omega
  have e2:(k+1) * 4+3=(k * 4+3)+1+1+1+1:=by omega
  refine ⟨?_,?_⟩
  ·rw [e1]
   show _::_::_::_::(flatK r).set (k * 4) _=_::_::_::_::flatK (r.set k _)
   rw [q.1]
  ·rw [e2]
   show _::_::_::_::(flatK r).set (k * 4+3) _=_::_::_::_::flatK (r.set k _)
   rw [q.2]
theorem flatK_same:∀ (L:List KV) (k:Nat) (a b:KV),L[k]? =some a→a.d.pc=b.d.pc→a.d.st=b.d.st→a.r=b.r→a.v=b.v→flatK (L.set k b)=flatK L
 | [],k,a,b,h,_,_,_,_=>by simp at h
 | y::r,0,a,b,h,h1,h2,h3,h4=>by simp at h;subst h;show [_,_,_,_]++flatK r=[_,_,_,_]++flatK r;rw [h1,h2,h3,h4]
 | y::r,k+1,a,b,h,h1,h2,h3,h4=>by show [_,_,_,_]++flatK (r.set k b)=[_,_,_,_]++flatK r;rw [flatK_same r k a b (by simpa using h) h1 h2 h3 h4]
/- one core's data turned, its rows where they were; the row of cores given anew -/
theorem OwnK.turn {w w':World} {B:Nat} {v:Value} {L:List KV} {i:Nat} {x y:KV} (h:OwnK w B v L) (hx:L[i]? =some x) (hr:y.r=x.r) (hv:y.v=x.v) (hrow:w'.ownsRow B 53 4 v L.length (flatK (L.set i y))) (hy:OwnN w' B y.r y.d.regs∧OwnN w' B y.v y.d.vw) (hk:∀ (j:Nat) (z:KV),j≠i→L[j]? =some z→OwnN w' B z.r z.d.regs∧OwnN w' B z.v z.d.vw):OwnK w' B v (L.set i y):=by
 refine ⟨by rw [List.length_set];exact hrow,fun j z hz=>?_,fun j z k hz=>?_,fun j j' z z' k hz hz' hne=>?_⟩
 ·rcases setKV_at hz with ⟨rfl,rfl,-⟩ | ⟨hj,hz⟩
  ·exact hy
  ·exact hk j z hj hz
 ·rcases setKV_at hz with ⟨rfl,rfl,-⟩ | ⟨hj,hz⟩
  ·rw [hr,hv];exact h.two _ x k hx
  ·exact h.two j z k hz
 ·rcases setKV_at hz with ⟨e1,e2,-⟩ | ⟨hj,q1⟩
  ·rcases setKV_at hz' with ⟨e3,e4,-⟩ | ⟨hj',q2⟩
   ·exact absurd (e1.trans e3.symm) hne
   ·subst e1 e2
    rw [hr,hv]
    exact h.sep _ j' x z' k hx q2 hne
  ·rcases setKV_at hz' with ⟨e3,e4,-⟩ | ⟨hj',q2⟩
   ·subst e3 e4
    rw [hr,hv]
    exact h.sep j _ z x k q1 hx hne
   ·exact h.sep j j' z z' k q1 q2 hne
theorem sk_turn {L:List KV} {S:List RS} {i:Nat} {x y:KV} (h:∀ (i:Nat) (x:KV) (q:Nat),L[i]? =some x→(x.r.ownBlock=some q∨x.v.ownBlock=some q)→∀ a∈mAs S,a.block≠q) (hx:L[i]? =some x) (hr:y.r=x.r) (hv:y.v=x.v):∀ (j:Nat) (z:KV) (q:Nat),(L.set i y)[j]? =some z→(z.r.ownBlock=some q∨z.v.ownBlock=some q)→∀ a∈mAs S,a.block≠q:=fun j z q hz hq=>by
 rcases setKV_at hz with ⟨rfl,rfl,-⟩ | ⟨hj,hz⟩
 ·rw [hr,hv] at hq;exact h _ x q hx hq
 ·exact h j z q hz hq
/- a store into the row of cores -/
theorem MQ0.setK {w : World} {B g c : Nat} {vc vm vt : Value} {LC : List CV} {LK : List KV} {S : List RS} {d : MD} (h : MQ0 w B vc (.slice (some ⟨g, 0, none⟩) LK.length c) vm vt LC LK S d) {i : Nat} {x : KV} (hx : LK[i]? = some x) (z : Int) :
  MQ0 (w.setCell ⟨g,i * 4,none⟩ (.int .i64 z)) B vc (.slice (some ⟨g,0,none⟩) LK.length c) vm vt LC (LK.set i ⟨{ x.d with pc:=z },x.r,x.v⟩) S (putK d i { x.d with pc:=z })
  ∧MQ0 (w.setCell ⟨g,i * 4+3,none⟩ (.int .i64 z)) B vc (.slice (some ⟨g,0,none⟩) LK.length c) vm vt LC (LK.set i ⟨{ x.d with st:=z },x.r,x.v⟩) S (putK d i { x.d with st:=z }):=by
 have ne:∀ {e:TypeId} {size n:Nat} {u:Value} {xs:List Value} (j:Nat) (v:Value),w.ownsRow B e size u n xs→e≠53→∀ k,u.ownBlock=some k→(w.setCell ⟨g,j,none⟩ v).heap[k]? =w.heap[k]? :=fun j v hu he k hk'=>Below.heap_setCell _ _ _ k (fun e=>ownType' hu h.k.row he hk' (by rw [e];rfl))
 have oc:∀ (j:Nat) (v:Value),OwnC (w.setCell ⟨g,j,none⟩ v) B vc LC:=fun j v=>⟨ownKeep' h.c.row (ne j v h.c.row (by decide)),fun i' x' hx'=>ownKeep' (h.c.inn i' x' hx') (ne j v (h.c.inn i' x' hx') (by decide)),h.c.sep⟩
 have om:∀ (j:Nat) (v:Value),OW (w.setCell ⟨g,j,none⟩ v) B vm S d.mem:=fun j v=>by
  refine ⟨h.m.n,ownKeep' h.m.row (ne j v h.m.row (by decide)),fun i' r l hr hl=>?_,h.m.d⟩
  have q:=h.m.r i' r l hr hl
  refine q.kept (ne j v q.own (by decide)) (fun a ha=>Below.heap_setCell _ _ _ _ (fun e=>?_)) (by simp)
  obtain ⟨cs,f,c1⟩:=q.vt a ha
  obtain ⟨cs',f',c2⟩:=own_ty h.k.row (k:=g) rfl
  rw [e,c2] at c1
  injection c1 with c1
  injection c1 with _ c1
  exact absurd c1 (by decide)
 have on:∀ (j:Nat) (v:Value),OwnD (w.setCell ⟨g,j,none⟩ v) B vt d.tr:=fun j v=>ownKeep' h.t (ne j v h.t (by decide))
 have oi:∀ (j:Nat) (v:Value) (i':Nat) (x':KV),LK[i']? =some x'→OwnN (w.setCell ⟨g,j,none⟩ v) B x'.r x'.d.regs∧OwnN (w.setCell ⟨g,j,none⟩ v) B x'.v x'.d.vw:=fun j v i' x' hx'=>⟨ownKeep' (h.k.inn i' x' hx').1 (ne j v (h.k.inn i' x' hx').1 (by decide)),ownKeep' (h.k.inn i' x' hx').2 (ne j v (h.k.inn i' x' hx').2 (by decide))⟩
 have fs:=flatK_set LK i x hx z
 refine ⟨⟨oc _ _,h.ec,?_,?_,om _ _,on _ _,sk_turn h.sk hx rfl rfl⟩,⟨oc _ _,h.ec,?_,?_,om _ _,on _ _,sk_turn h.sk hx rfl rfl⟩⟩
 ·refine h.k.turn hx rfl rfl ?_ (oi _ _ i x hx) (fun j z' _ hz'=>oi _ _ j z' hz')
  have r:=(World.ownsRow.stored h.k.row (i * 4) (.int .i64 z)).1
  rw [fs.1] at r
  exact r
 ·show (LK.set i _).map KV.d=d.cores.set i _
  rw [List.map_set,h.ek]
 ·refine h.k.turn hx rfl rfl ?_ (oi _ _ i x hx) (fun j z' _ hz'=>oi _ _ j z' hz')
  have r:=(World.ownsRow.stored h.k.row (i * 4+3) (.int .i64 z)).1
  rw [fs.2] at r
  exact r
 ·show (LK.set i _).map KV.d=d.cores.set i _
  rw [List.map_set,h.ek]
/- a store into a register -/
theorem MQ0.setR {w : World} {B g c j : Nat} {vc vk vm vt : Value} {LC : List CV} {LK : List KV} {S : List RS} {d : MD} (h : MQ0 w B vc vk vm vt LC LK S d) {i : Nat} {x : KV} (hx : LK[i]? = some x) (hr : x.r = .slice (some ⟨g, 0, none⟩) x.d.regs.length c) (z : Int) :
  MQ0 (w.setCell ⟨g,j,none⟩ (.int .i64 z)) B vc vk vm vt LC (LK.set i ⟨{ x.d with regs:=x.d.regs.set j z },x.r,x.v⟩) S (putK d i { x.d with regs:=x.d.regs.set j z }):=by
 have hxo:=(h.k.inn i x hx).1
 have hrow:w.ownsRow B 3 1 (.slice (some ⟨g,0,none⟩) x.d.regs.length c) x.d.regs.length (x.d.regs.map (Value.int .i64)):=by have q:=hxo;unfold OwnN at q;rw [hr] at q;exact q
 have hxb:x.r.ownBlock=some g:=by rw [hr];rfl
 have ne:∀ {e:TypeId} {size n:Nat} {u:Value} {xs:List Value},w.ownsRow B e size u n xs→e≠3→∀ k,u.ownBlock=some k→(w.setCell ⟨g,j,none⟩ (.int .i64 z)).heap[k]? =w.heap[k]? :=fun hu he k hk'=>Below.heap_setCell _ _ _ k (fun e=>ownType' hu hrow he hk' (by rw [e];rfl))
 have nn:∀ {u:Value} {l:List Int},OwnN w B u l→u.ownBlock≠some g→OwnN (w.setCell ⟨g,j,none⟩ (.int .i64 z)) B u l:=fun hu hn=>ownKeep' hu (fun k hk=>Below.heap_setCell _ _ _ k (fun e=>hn (hk.trans (congrArg some e))))
 refine ⟨⟨ownKeep' h.c.row (ne h.c.row (by decide)),fun i' x' hx'=>ownKeep' (h.c.inn i' x' hx') (ne (h.c.inn i' x' hx') (by decide)),h.c.sep⟩,h.ec,?_,?_,?_,ownKeep' h.t (ne h.t (by decide)),sk_turn h.sk hx rfl rfl⟩
 ·refine h.k.turn hx rfl rfl ?_ ⟨?_,nn (h.k.inn i x hx).2 (h.k.two i x g hx hxb)⟩ (fun j' z' hj hz'=>?_)
  ·have r:=ownKeep' h.k.row (ne h.k.row (by decide))
   have e:=flatK_same LK i x ⟨{ x.d with regs:=x.d.regs.set j z },x.r,x.v⟩ hx rfl rfl rfl rfl
   rw [e]
   exact r
  ·show (w.setCell ⟨g,j,none⟩ (.int .i64 z)).ownsRow B 3 1 x.r (x.d.regs.set j z).length ((x.d.regs.set j z).map (Value.int .i64))
   rw [hr,List.length_set,List.map_set]
   exact (World.ownsRow.stored hrow j (.int .i64 z)).1
  ·have q:=h.k.sep i j' x z' g hx hz' (Ne.symm hj) (.inl hxb)
   exact ⟨nn (h.k.inn j' z' hz').1 (fun e=>q (.inl e)),nn (h.k.inn j' z' hz').2 (fun e=>q (.inr e))⟩
 ·show (LK.set i _).map KV.d=d.cores.set i _
  rw [List.map_set,h.ek]
 ·refine ⟨h.m.n,ownKeep' h.m.row (ne h.m.row (by decide)),fun i' r l hr' hl=>?_,h.m.d⟩
  have q:=h.m.r i' r l hr' hl
  refine q.kept (ne q.own (by decide)) (fun a ha=>Below.heap_setCell _ _ _ _ (fun e=>?_)) (by simp)
  refine h.sk i x g hx (.inl hxb) a (mem_mAs.2 ⟨r,List.mem_of_getElem? hr',mem_rAs.2 (.inr (mem_vsA.1 ha))⟩) e
theorem flatK_setV:∀ (L:List KV) (k:Nat) (x:KV) (u:Value) (l:List Int),L[k]? =some x→(flatK L).set (k * 4+2) u=flatK (L.set k ⟨{ x.d with vw:=l },x.r,u⟩)
 | [],k,x,u,l,h=>by simp at h
 | y::r,0,x,u,l,h=>by simp at h;subst h;rfl
 | y::r,k+1,x,u,l,h=>by
  have q:=flatK_setV r k x u l (by simpa using h)
  have e2:(k+1) * 4+2=(k * 4+2)+1+1+1+1:=by omega
  rw [e2]
  show _::_::_::_::(flatK r).set (k * 4+2) _=_::_::_::_::flatK (r.set k _)
  rw [q]
/- another view put in its place: it lies apart from all that the machine has -/
theorem MQ0.setV {w : World} {B g c : Nat} {vc vm vt : Value} {LC : List CV} {LK : List KV} {S : List RS} {d : MD} (h : MQ0 w B vc (.slice (some ⟨g, 0, none⟩) LK.length c) vm vt LC LK S d) {i : Nat} {x : KV} (hx : LK[i]? = some x) (u : Value) (l : List Int) (hu : OwnN w B u l) (hf : ∀ q, u.ownBlock = some q → (∀ (j : Nat) (z : KV), LK[j]? = some z → ¬ (z.r.ownBlock = some q ∨ z.v.ownBlock = some q)) ∧ ∀ a ∈ mAs S, a.block ≠ q) :
  MQ0 (w.setCell ⟨g,i * 4+2,none⟩ u) B vc (.slice (some ⟨g,0,none⟩) LK.length c) vm vt LC (LK.set i ⟨{ x.d with vw:=l },x.r,u⟩) S (putK d i { x.d with vw:=l }):=by
 have ne:∀ {e:TypeId} {size n:Nat} {u':Value} {xs:List Value},w.ownsRow B e size u' n xs→e≠53→∀ k,u'.ownBlock=some k→(w.setCell ⟨g,i * 4+2,none⟩ u).heap[k]? =w.heap[k]? :=fun hu he k hk'=>Below.heap_setCell _ _ _ k (fun e=>ownType' hu h.k.row he hk' (by rw [e];rfl))
 have oi:∀ (i':Nat) (x':KV),LK[i']? =some x'→OwnN (w.setCell ⟨g,i * 4+2,none⟩ u) B x'.r x'.d.regs∧OwnN (w.setCell ⟨g,i * 4+2,none⟩ u) B x'.v x'.d.vw:=fun i' x' hx'=>⟨ownKeep' (h.k.inn i' x' hx').1 (ne (h.k.inn i' x' hx').1 (by decide)),ownKeep' (h.k.inn i' x' hx').2 (ne (h.k.inn i' x' hx').2 (by decide))⟩
 refine ⟨⟨ownKeep' h.c.row (ne h.c.row (by decide)),fun i' x' hx'=>ownKeep' (h.c.inn i' x' hx') (ne (h.c.inn i' x' hx') (by decide)),h.c.sep⟩,h.ec,⟨?_,fun j z hz=>?_,fun j z k hz hk=>?_,fun j j' z z' k hz hz' hne hk=>?_⟩,?_,?_,ownKeep' h.t (ne h.t (by decide)),fun j z q hz hq=>?_⟩
 ·have r:=(World.ownsRow.stored h.k.row (i * 4+2) u).1
  rw [flatK_setV LK i x u l hx] at r
  rw [List.length_set]
  exact r
 ·rcases setKV_at hz with ⟨e1,e2,-⟩ | ⟨hj,q1⟩
  ·subst e1 e2
   exact ⟨(oi _ x hx).1,ownKeep' hu (ne hu (by decide))⟩
  ·exact oi j z q1
 ·rcases setKV_at hz with ⟨e1,e2,-⟩ | ⟨hj,q1⟩
  ·subst e1 e2
   exact fun e=>(hf k e).1 _ x hx (.inl hk)
  ·exact h.k.two j z k q1 hk
 ·rcases setKV_at hz with ⟨e1,e2,-⟩ | ⟨hj,q1⟩
  ·rcases setKV_at hz' with ⟨e3,e4,-⟩ | ⟨hj',q2⟩
   ·exact absurd (e1.trans e3.symm) hne
   ·subst e1 e2
    rcases hk with hk | hk
    ·exact h.k.sep _ j' x z' k hx q2 hne (.inl hk)
    ·exact (hf k hk).1 j' z' q2
  ·rcases setKV_at hz' with ⟨e3,e4,-⟩ | ⟨hj',q2⟩
   ·subst e3 e4
    rintro (e | e)
    ·exact h.k.sep j _ z x k q1 hx hne hk (.inl e)
    ·exact (hf k e).1 j z q1 hk
   ·exact h.k.sep j j' z z' k q1 q2 hne hk
 ·show (LK.set i _).map KV.d=d.cores.set i _
  rw [List.map_set,h.ek]
 ·refine ⟨h.m.n,ownKeep' h.m.row (ne h.m.row (by decide)),fun i' r l' hr hl=>?_,h.m.d⟩
  have q:=h.m.r i' r l' hr hl
  refine q.kept (ne q.own (by decide)) (fun a ha=>Below.heap_setCell _ _ _ _ (fun e=>?_)) (by simp)
  obtain ⟨cs,f,c1⟩:=q.vt a ha
  obtain ⟨cs',f',c2⟩:=own_ty h.k.row (k:=g) rfl
  rw [e,c2] at c1
  injection c1 with c1
  injection c1 with _ c1
  exact absurd c1 (by decide)
 ·rcases setKV_at hz with ⟨e1,e2,-⟩ | ⟨hj,q1⟩
  ·subst e1 e2
   rcases hq with hq | hq
   ·exact h.sk _ x q hx (.inl hq)
   ·exact (hf q hq).2
  ·exact h.sk j z q q1 hq
/- the memory behind a store: the rest of the machine stays -/
theorem MQ0.sto {w w' : World} {B gO cO k : Nat} {vc vk vt : Value} {LC : List CV} {LK : List KV} {S : List RS} {d : MD} {r r' : RS} {lr : List WD} {m' : List (List WD)} (h : MQ0 w B vc vk (.slice (some ⟨gO, 0, none⟩) d.mem.length cO) vt LC LK S d) (hk : S[k]? = some r) (hlm : d.mem[k]? = some lr) (hm : OW w' B (.slice (some ⟨gO, 0, none⟩) d.mem.length cO) (S.set k r') m')
  (hf:∀ b,b < w.heap.size→b≠gO→r.val.ownBlock≠some b→w'.heap[b]? =w.heap[b]?) (hp:∀ a∈mAs (S.set k r'),(∃ a'∈mAs S,a'.block=a.block)∨w.heap.size≤a.block):MQ0 w' B vc vk (.slice (some ⟨gO,0,none⟩) d.mem.length cO) vt LC LK (S.set k r') { d with mem:=m' }:=by
 have hro:=(h.m.r k r lr hk hlm).own
 have ne:∀ {e:TypeId} {size n:Nat} {u:Value} {xs:List Value},w.ownsRow B e size u n xs→e≠97→e≠99→∀ q,u.ownBlock=some q→w'.heap[q]? =w.heap[q]? :=fun hu h1 h2 q hq=>hf q (World.ownsRow.lt hu _ hq).2 (fun e=>ownType' hu h.m.row h1 hq (by rw [e];rfl)) (ownType' hu hro h2 hq)
 refine ⟨⟨ownKeep' h.c.row (ne h.c.row (by decide) (by decide)),fun i x hx=>ownKeep' (h.c.inn i x hx) (ne (h.c.inn i x hx) (by decide) (by decide)),h.c.sep⟩,h.ec,⟨ownKeep' h.k.row (ne h.k.row (by decide) (by decide)),fun i x hx=>⟨ownKeep' (h.k.inn i x hx).1 (ne (h.k.inn i x hx).1 (by decide) (by decide)),ownKeep' (h.k.inn i x hx).2 (ne (h.k.inn i x hx).2 (by decide) (by decide))⟩,h.k.two,h.k.sep⟩,h.ek,hm,ownKeep' h.t (ne h.t (by decide) (by decide)),fun i x q hx hq a ha e=>?_⟩
 rcases hp a ha with ⟨a',ha',e'⟩ | hlt
 ·exact h.sk i x q hx hq a' ha' (e'.trans e)
 ·have:q < w.heap.size:=by
   rcases hq with hq | hq
   ·exact (World.ownsRow.lt (h.k.inn i x hx).1 _ hq).2
   ·exact (World.ownsRow.lt (h.k.inn i x hx).2 _ hq).2
  omega
theorem HitQ.set {P:Nat→Prop} {vc vk vm vt:Value} {LC:List CV} {LK:List KV} {S:List RS} (h:HitQ P vc vk vm vt LC LK S) (i:Nat) (y:KV) (hy:∀ q,(y.r.ownBlock=some q∨y.v.ownBlock=some q)→P q):HitQ P vc vk vm vt LC (LK.set i y) S:=
 ⟨h.c,h.ci,h.k,fun j z q hz hq=>by
  rcases setKV_at hz with ⟨-,rfl,-⟩ | ⟨-,hz⟩
  ·exact hy q hq
  ·exact h.ki j z q hz hq,h.m,h.mi,h.t⟩
theorem HitQ.same {P:Nat→Prop} {vc vk vm vt:Value} {LC:List CV} {LK:List KV} {S:List RS} {i:Nat} {x:KV} (h:HitQ P vc vk vm vt LC LK S) (hx:LK[i]? =some x) (k:KD):HitQ P vc vk vm vt LC (LK.set i ⟨k,x.r,x.v⟩) S:=h.set i _ (fun q hq=>h.ki i x q hx hq)
theorem MQ.setK {Hq : Nat → Prop} {w : World} {B g c : Nat} {vc vm vt : Value} {LC : List CV} {LK : List KV} {S : List RS} {d : MD} (h : MQ w B Hq vc (.slice (some ⟨g, 0, none⟩) LK.length c) vm vt LC LK S d) {i : Nat} {x : KV} (hx : LK[i]? = some x) (z : Int) :
  MQ (w.setCell ⟨g,i * 4,none⟩ (.int .i64 z)) B Hq vc (.slice (some ⟨g,0,none⟩) LK.length c) vm vt LC (LK.set i ⟨{ x.d with pc:=z },x.r,x.v⟩) S (putK d i { x.d with pc:=z })
  ∧MQ (w.setCell ⟨g,i * 4+3,none⟩ (.int .i64 z)) B Hq vc (.slice (some ⟨g,0,none⟩) LK.length c) vm vt LC (LK.set i ⟨{ x.d with st:=z },x.r,x.v⟩) S (putK d i { x.d with st:=z }):=⟨⟨(h.toMQ0.setK hx z).1,h.hh.same hx _,by simpa using h.hn⟩,⟨(h.toMQ0.setK hx z).2,h.hh.same hx _,by simpa using h.hn⟩⟩
theorem MQ.setR {Hq : Nat → Prop} {w : World} {B g c j : Nat} {vc vk vm vt : Value} {LC : List CV} {LK : List KV} {S : List RS} {d : MD} (h : MQ w B Hq vc vk vm vt LC LK S d) {i : Nat} {x : KV} (hx : LK[i]? = some x) (hr : x.r = .slice (some ⟨g, 0, none⟩) x.d.regs.length c) (z : Int) :
  MQ (w.setCell ⟨g,j,none⟩ (.int .i64 z)) B Hq vc vk vm vt LC (LK.set i ⟨{ x.d with regs:=x.d.regs.set j z },x.r,x.v⟩) S (putK d i { x.d with regs:=x.d.regs.set j z }):=⟨h.toMQ0.setR hx hr z,h.hh.same hx _,by simpa using h.hn⟩
theorem MQ.setV {Hq : Nat → Prop} {w : World} {B g c : Nat} {vc vm vt : Value} {LC : List CV} {LK : List KV} {S : List RS} {d : MD} (h : MQ w B Hq vc (.slice (some ⟨g, 0, none⟩) LK.length c) vm vt LC LK S d) {i : Nat} {x : KV} (hx : LK[i]? = some x) (u : Value) (l : List Int) (hu : OwnN w B u l) (hf : ∀ q, u.ownBlock = some q → ((∀ (j : Nat) (z : KV), LK[j]? = some z → ¬ (z.r.ownBlock = some q ∨ z.v.ownBlock = some q)) ∧ ∀ a ∈ mAs S, a.block ≠ q) ∧ Hq q) :
  MQ (w.setCell ⟨g,i * 4+2,none⟩ u) B Hq vc (.slice (some ⟨g,0,none⟩) LK.length c) vm vt LC (LK.set i ⟨{ x.d with vw:=l },x.r,u⟩) S (putK d i { x.d with vw:=l }):=⟨h.toMQ0.setV hx u l hu (fun q hq=>(hf q hq).1),h.hh.set i _ (fun q hq=>hq.elim (fun e=>h.hh.ki i x q hx (.inl e)) (fun e=>(hf q e).2)),by simpa using h.hn⟩
theorem MQ.sto {Hq : Nat → Prop} {w w' : World} {B gO cO k : Nat} {vc vk vt : Value} {LC : List CV} {LK : List KV} {S : List RS} {d : MD} {r r' : RS} {lr : List WD} {m' : List (List WD)} (h : MQ w B Hq vc vk (.slice (some ⟨gO, 0, none⟩) d.mem.length cO) vt LC LK S d) (hk : S[k]? = some r) (hlm : d.mem[k]? = some lr) (hm : OW w' B (.slice (some ⟨gO, 0, none⟩) d.mem.length cO) (S.set k r') m')
  (hf:∀ b,b < w.heap.size→b≠gO→r.val.ownBlock≠some b→w'.heap[b]? =w.heap[b]?) (hp:∀ a∈mAs (S.set k r'),(∃ a'∈mAs S,a'.block=a.block)∨w.heap.size≤a.block) (hz:w.heap.size≤w'.heap.size):MQ w' B Hq vc vk (.slice (some ⟨gO,0,none⟩) d.mem.length cO) vt LC LK (S.set k r') { d with mem:=m' }:=⟨h.toMQ0.sto hk hlm hm hf hp,⟨h.hh.c,h.hh.ci,h.hh.k,h.hh.ki,h.hh.m,fun a ha=>(hp a ha).elim (fun ⟨a',h1,h2⟩=>h2▸h.hh.mi a' h1) (fun e=>h.hn _ e),h.hh.t⟩,fun q hq=>h.hn q (Nat.le_trans hz hq)⟩
end
end Go.Proofs.YtlbeploopclegaaGreat
