/- A step of the specification, whichever; a pick of the specification's machine. Condition: late is a number of 64 bits. Cores copied by the specification. Conditions: their rows of at most 1048576. -/
import Derived.Test.YtlbeploopclegaaGreatQG00
import Derived.Test.YtlbeploopclegaaGreatQG01
import Derived.Test.YtlbeploopclegaaGreatQG10
import Derived.Test.YtlbeploopclegaaGreatQG02
import Derived.Test.YtlbeploopclegaaGreatQG07
import Derived.Test.YtlbeploopclegaaGreatQKSpA
import Derived.Test.YtlbeploopclegaaGreatQKSpB
import Derived.Test.YtlbeploopclegaaGreatQKSpC
import Derived.Test.YtlbeploopclegaaGreatQKSpD
import Derived.Test.YtlbeploopclegaaGreatQKSpE
import Derived.Test.YtlbeploopclegaaGreatQKSpF
import Derived.Test.YtlbeploopclegaaGreatQKSpG
import Derived.Test.YtlbeploopclegaaGreatQG04
import Derived.Test.YtlbeploopclegaaGreatQG11
namespace Go.Proofs.YtlbeploopclegaaGreat
section
set_option linter.unusedSimpArgs false
set_option linter.unusedVariables false
set_option maxRecDepth 100000
open Go.RowKit
theorem l8Step_any {Hq : Nat → Prop} (B : Nat) (vc vk vm vt : Value) (LC : List CV) (LK : List KV) (S : List RS) (d : MD) (who : Nat) (k : KD) (code : List I5) (s : I5) (late : Int) (w : World) (h : MQ w B Hq vc vk vm vt LC LK S d) (ha : At8 d who k code s) (hb : B ≤ w.heap.size) (hlate : late ≤ 9223372036854775807) (hr : k.st = 0) :
  Calls Tryz.prog 63 #[.agg #[vc,vk,vm,vt],.agg #[.int .i64 who,.int .i64 late]] w fun e w'=>StepX w B Hq vc vk vm vt LC LK S d (stepM d who late) e w':=by
 rw [stepM_at ha late hr]
 have hok:=ha.ok
 unfold stX Plain.stepB at hok
 rw [decide_eq_true_eq] at hok
 rcases (show s.o=1∨s.o=2∨s.o=3∨s.o=4∨s.o=9∨s.o=10∨s.o=11∨s.o=12∨s.o=13∨(5≤s.o∧s.o≤8) by omega) with e | e | e | e | e | e | e | e | e | e
 ·exact sp1 B vc vk vm vt LC LK S d who k code s late w h ha hb e
 ·exact sp2 B vc vk vm vt LC LK S d who k code s late w h ha hb e
 ·exact sp3 B vc vk vm vt LC LK S d who k code s late w h ha hb e
 ·exact sp4 B vc vk vm vt LC LK S d who k code s late w h ha hb e
 ·exact sp9 B vc vk vm vt LC LK S d who k code s late w h ha hb e
 ·exact sp10 B vc vk vm vt LC LK S d who k code s late w h ha hb e
 ·exact sp11 B vc vk vm vt LC LK S d who k code s late w h ha hb e
 ·exact sp12 B vc vk vm vt LC LK S d who k code s late w h ha hb e
 ·exact sp13 B vc vk vm vt LC LK S d who k code s late w h ha hb e
 ·exact spM B vc vk vm vt LC LK S d who k code s late w h ha hb hlate e
end
section
set_option linter.unusedSimpArgs false
set_option linter.unusedVariables false
set_option maxRecDepth 100000
open Go.RowKit
set_option maxHeartbeats 1000000 in
theorem l8Core_any (k : KD) (s1 s2 : Option Addr) (c1 c2 lo hi : Nat) (w : World) (h1 : IntsR w lo hi s1 k.regs) (h2 : IntsR w lo hi s2 k.vw) (hB : hi ≤ w.heap.size) (hl1 : k.regs.length ≤ 1048576) (hl2 : k.vw.length ≤ 1048576) :
  Calls Tryz.prog 61 #[.agg #[.int .i64 k.pc,.slice s1 k.regs.length c1,.slice s2 k.vw.length c2,.int .i64 k.st]] w fun e w'=>∃ a1 b1 a2 b2,e=.returned (.agg #[.int .i64 k.pc,.slice a1 k.regs.length b1,.slice a2 k.vw.length b2,.int .i64 k.st])∧OwnN w' w.heap.size (.slice a1 k.regs.length b1) k.regs∧OwnN w' w.heap.size (.slice a2 k.vw.length b2) k.vw∧(∀ q,(Value.slice a1 k.regs.length b1).ownBlock=some q→(Value.slice a2 k.vw.length b2).ownBlock≠some q)∧Below w.heap.size w w'∧w.heap.size < w'.heap.size:=by
 have H1:Hid (IntsR w lo hi s1 k.regs):=h1
 have H2:Hid (IntsR w lo hi s2 k.vw):=h2
 clear h1 h2
 go_enter Tryz.func61,Tryz.ntmps61
 obtain ⟨W,hW⟩:∃ W,(w.alloc (.cells #[.int .i64 k.pc,.slice s1 k.regs.length c1,.slice s2 k.vw.length c2,.int .i64 k.st] 53)).alloc (.cells #[.int .i64 0,.slice none 0 0,.slice none 0 0,.int .i64 0] 53)=W:=⟨_,rfl⟩
 obtain ⟨kw,xa,xb,zw⟩:=two4x hW
 have HW:Hid ((w.alloc (.cells #[.int .i64 k.pc,.slice s1 k.regs.length c1,.slice s2 k.vw.length c2,.int .i64 k.st] 53)).alloc (.cells #[.int .i64 0,.slice none 0 0,.slice none 0 0,.int .i64 0] 53)=W):=hW
 have XA:Hid (X4 W w.heap.size (.int .i64 k.pc) (.slice s1 k.regs.length c1) (.slice s2 k.vw.length c2) (.int .i64 k.st)):=xa
 have XB:Hid (X4 W (w.heap.size+1) (.int .i64 0) (.slice none 0 0) (.slice none 0 0) (.int .i64 0)):=xb
 have KW:Hid (Below w.heap.size w W):=kw
 have zW:w.heap.size+2≤W.heap.size:=by omega
 have HR1:Hid (IntsR W lo hi s1 k.regs):=H1.out.keep (Keep.of_below kw hB)
 have zW':=zw
 clear hW kw xa xb zw
 go_wp2_with (first | (at_builtin;rw [HW.out];refine app_copyI rfl _ _ rfl rfl (W.alloc (.cells #[] 3)) W.heap.size (some ⟨W.heap.size,0,none⟩) 0 (by first | rfl | (rw [zW'];rfl)) (World.ownsRow_lit W #[] 0 (Nat.le_refl _) (by unfold maxLen;omega) rfl) s1 c1 k.regs (by rfl) (HR1.out.keep (Keep.of_below ((Below.refl W.heap.size W).alloc (Nat.le_refl _) _) (by omega))) (by omega) (by simp) ?_;intro a1 b1 w1 ho1 hc1;have O1:=(show Hid (OwnN w1 W.heap.size (.slice a1 k.regs.length b1) k.regs) from ho1);have kl:=(show Below W.heap.size W w1 from ((Below.refl W.heap.size W).alloc (Nat.le_refl _) _).trans hc1.low);have K1:=(show Hid (Below W.heap.size W w1) from kl);have YA:=(show Hid (X4 w1 w.heap.size (.int .i64 k.pc) (.slice s1 k.regs.length c1) (.slice s2 k.vw.length c2) (.int .i64 k.st)) from XA.out.keep kl (by omega));have YB:=(show Hid (X4 w1 (w.heap.size+1) (.int .i64 0) (.slice none 0 0) (.slice none 0 0) (.int .i64 0)) from XB.out.keep kl (by omega));have ya:=YA.out.x.c1;have ya2:=YA.out.x.c2;have yf:=YA.out.fz 1;have za:=YA.out.x.z;clear ho1 hc1 kl) | (
  at_builtin
  obtain ⟨V,hV⟩:∃ V,w1.setCell ⟨w.heap.size,1,none⟩ (.slice a1 k.regs.length b1)=V:=⟨_,rfl⟩
  have VA:Hid (X4 V w.heap.size (.int .i64 k.pc) (.slice a1 k.regs.length b1) (.slice s2 k.vw.length c2) (.int .i64 k.st)):=by rw [← hV];exact YA.out.set1
  have VB:Hid (X4 V (w.heap.size+1) (.int .i64 0) (.slice none 0 0) (.slice none 0 0) (.int .i64 0)):=by rw [← hV];exact YB.out.off (by omega)
  have vs:V.heap.size=w1.heap.size:=by rw [← hV];simp
  have k1s:=K1.out.size
  have KV:Hid (Below w.heap.size w V):=by rw [← hV];exact (KW.out.trans (K1.out.mono (by omega))).setCell (p:=⟨w.heap.size,1,none⟩) (Nat.le_refl _) _
  have OV:Hid (OwnN V W.heap.size (.slice a1 k.regs.length b1) k.regs):=by
   rw [← hV]
   exact ownKeep' O1.out (fun b hb=>Below.heap_setCell _ _ _ b (by have:=(World.ownsRow.lt O1.out _ hb).1;simp;omega))
  have HR2:Hid (IntsR V lo hi s2 k.vw):=H2.out.keep (Keep.of_below KV.out hB)
  have zV:w.heap.size+2≤V.heap.size:=by omega
  rw [hV]
  obtain ⟨va0,va1,va2,va3,va4⟩:=VA.out.x
  have vf:=VA.out.fz
  have vs':=vs
  clear hV ya ya2 yf za YA YB O1 K1 vs
  refine app_copyI rfl _ _ rfl rfl (V.alloc (.cells #[] 3)) V.heap.size (some ⟨V.heap.size,0,none⟩) 0 (by first | rfl | (rw [vs'];rfl)) (World.ownsRow_lit V #[] 0 (Nat.le_refl _) (by unfold maxLen;omega) rfl) s2 c2 k.vw (by rfl) (HR2.out.keep (Keep.of_below ((Below.refl V.heap.size V).alloc (Nat.le_refl _) _) (by omega))) (by omega) (by simp) ?_
  intro a2 b2 w2 ho2 hc2
  have P2:=(show Hid (OwnN w2 V.heap.size (.slice a2 k.vw.length b2) k.vw) from ho2)
  have K2:=(show Hid (Below V.heap.size V w2) from ((Below.refl V.heap.size V).alloc (Nat.le_refl _) _).trans hc2.low)
  clear ho2 hc2
  have KK:Hid (Below w.heap.size w w2):=KV.out.trans (K2.out.mono (by omega))
  have ZA:Hid (X4 w2 w.heap.size (.int .i64 k.pc) (.slice a1 k.regs.length b1) (.slice s2 k.vw.length c2) (.int .i64 k.st)):=VA.out.keep K2.out (by omega)
  have ZB:Hid (X4 w2 (w.heap.size+1) (.int .i64 0) (.slice none 0 0) (.slice none 0 0) (.int .i64 0)):=VB.out.keep K2.out (by omega)
  have P1:Hid (OwnN w2 W.heap.size (.slice a1 k.regs.length b1) k.regs):=ownKeep' OV.out (fun b hb=>K2.out.block b (World.ownsRow.lt OV.out _ hb).2)
  have SP:Hid (∀ q,(Value.slice a1 k.regs.length b1).ownBlock=some q→(Value.slice a2 k.vw.length b2).ownBlock≠some q):=fun q h1 h2=>by
   have:=(World.ownsRow.lt OV.out _ h1).2
   have:=(World.ownsRow.lt P2.out _ h2).1
   omega
  clear va1 va2 va3 va4 vf
  obtain ⟨za0,za1,za2,za3,za4⟩:=ZA.out.x
  have zf:=ZA.out.fz
  obtain ⟨yb0,yb1,yb2,yb3,yb4⟩:=ZB.out.x
  have yf2:=ZB.out.fz
  have zz2:=K2.out.size))
 obtain ⟨Z,hZ,xz,kz,sz,fz⟩:∃ Z,((((w2.setCell ⟨w.heap.size,2,none⟩ (.slice a2 k.vw.length b2)).setCell ⟨w.heap.size+1,0,none⟩ (.int .i64 k.pc)).setCell ⟨w.heap.size+1,1,none⟩ (.slice a1 k.regs.length b1)).setCell ⟨w.heap.size+1,2,none⟩ (.slice a2 k.vw.length b2)).setCell ⟨w.heap.size+1,3,none⟩ (.int .i64 k.st)=Z∧X4 Z (w.heap.size+1) (.int .i64 k.pc) (.slice a1 k.regs.length b1) (.slice a2 k.vw.length b2) (.int .i64 k.st)∧Below w.heap.size w Z∧Z.heap.size=w2.heap.size∧∀ b,w.heap.size+2≤b→Z.heap[b]? =w2.heap[b]? :=by
  refine ⟨_,rfl,(ZB.out.off (by omega)).set0.set1.set2.set3,?_,by simp,fun b hb=>?_⟩
  ·refine Below.setCell (Below.setCell (Below.setCell (Below.setCell (Below.setCell KK.out ?_ _) ?_ _) ?_ _) ?_ _) ?_ _<;>simp
  ·rw [Below.heap_setCell _ _ _ b (by simp;omega),Below.heap_setCell _ _ _ b (by simp;omega),Below.heap_setCell _ _ _ b (by simp;omega),Below.heap_setCell _ _ _ b (by simp;omega),Below.heap_setCell _ _ _ b (by simp;omega)]
 have o1:OwnN Z w.heap.size (.slice a1 k.regs.length b1) k.regs:=by
  have o:OwnN w2 w.heap.size (.slice a1 k.regs.length b1) k.regs:=ownLow' P1.out (by omega)
  exact ownKeep' o (fun b hb=>fz b (by have:=(World.ownsRow.lt P1.out _ hb).1;omega))
 have o2:OwnN Z w.heap.size (.slice a2 k.vw.length b2) k.vw:=by
  have o:OwnN w2 w.heap.size (.slice a2 k.vw.length b2) k.vw:=ownLow' P2.out (by omega)
  exact ownKeep' o (fun b hb=>fz b (by have:=(World.ownsRow.lt P2.out _ hb).1;omega))
 refine bodyPost_ret (v:=.agg #[.int .i64 k.pc,.slice a1 k.regs.length b1,.slice a2 k.vw.length b2,.int .i64 k.st]) ?_ rfl ?_
 ·rw [hZ]
  simp [results,Tryz.results61,go_sem,xz.x.c0,xz.x.c1,xz.x.c2,xz.x.c3]
 ·rw [hZ]
  exact ⟨a1,b1,a2,b2,rfl,o1,o2,SP.out,kz,by omega⟩
end
end Go.Proofs.YtlbeploopclegaaGreat
