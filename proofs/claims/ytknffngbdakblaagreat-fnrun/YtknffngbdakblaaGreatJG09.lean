/- SourceOk of the program, whole. Conditions: lists of at most 1048576. SourceNew of the program and of the specification. Conditions: the program's lists of at most 1048576. A region that draws its order, in which the last operation alone writes and waits for all others: one walk of these, in the order of the text, and then that one. No condition. -/
import Derived.Test.YtknffngbdakblaaGreatJG00
import Derived.Test.YtknffngbdakblaaGreatJG06
import Derived.Test.YtknffngbdakblaaGreatJProgOk2
import Derived.Test.YtknffngbdakblaaGreatJProgOk
import Derived.Test.YtknffngbdakblaaGreatJG01
import Derived.Test.YtknffngbdakblaaGreatJSrcOk2
import Derived.Test.YtknffngbdakblaaGreatJG04
import Derived.Deep.RegionLaw
namespace Go.Proofs.YtknffngbdakblaaGreat
section
set_option linter.unusedSimpArgs false
set_option linter.unusedVariables false
set_option maxRecDepth 100000
open Go.RowKit
theorem src1 {p:PD} {d:SD} (h:progB p=false):srcB p d=false:=by unfold srcB;rw [h];rfl
theorem src2 {p:PD} {d:SD} (h:thsB d.ths p.bods=false):srcB p d=false:=by unfold srcB;rw [h];simp
theorem src3 {p:PD} {d:SD} (h:chsB d.chs p.caps=false):srcB p d=false:=by unfold srcB;rw [h];simp
theorem src4 {p:PD} {d:SD} (h1:progB p=true) (h2:thsB d.ths p.bods=true) (h3:chsB d.chs p.caps=true):srcB p d=trB d.tr p.bods.length:=by unfold srcB;rw [h1,h2,h3];rfl
theorem fiveB {w W:World} {a b c d e:Value} {T T':TypeId} (hW:(w.alloc (.cells #[a,b] T)).alloc (.cells #[c,d,e] T')=W):Below w.heap.size w W∧w.heap.size < W.heap.size∧w.heap.size+1 < W.heap.size∧(W.cell? ⟨w.heap.size,0,none⟩=some a∧W.cell? ⟨w.heap.size,1,none⟩=some b)∧W.cell? ⟨w.heap.size+1,0,none⟩=some c∧W.cell? ⟨w.heap.size+1,1,none⟩=some d∧W.cell? ⟨w.heap.size+1,2,none⟩=some e:=by
 subst hW
 exact ⟨((Below.refl _ _).alloc (Nat.le_refl _) _).alloc (by simp) _,by simp;omega,by simp,⟨by simp [go_sem],by simp [go_sem]⟩,by simp [go_sem],by simp [go_sem],by simp [go_sem]⟩
set_option maxRecDepth 100000 in
set_option maxHeartbeats 4000000 in
theorem implSource_any (p1 p2 s1 s2 s3 : Option Addr) (a1 a2 c1 c2 c3 lo hi lo' hi' : Nat) (p : PD) (d : SD) (w : World) (h : ProgR w lo hi p1 p2 p) (h' : SrcR w lo' hi' s1 s2 s3 d) (hB : hi ≤ w.heap.size) (hB' : hi' ≤ w.heap.size) (hf : Fits p) (hf' : SFits d) :
  Calls Tryz.prog 28 #[.agg #[.slice p1 p.caps.length a1,.slice p2 p.bods.length a2],.agg #[.slice s1 d.ths.length c1,.slice s2 d.chs.length c2,.slice s3 d.tr.length c3]] w fun e w'=>e=.returned (.bool (srcB p d))∧Below w.heap.size w w':=by
 have H:Hid (ProgR w lo hi p1 p2 p):=h
 have H':Hid (SrcR w lo' hi' s1 s2 s3 d):=h'
 have FP:Hid (Fits p):=hf
 have FS:Hid (SFits d):=hf'
 have n1:=hf.2.1
 have n2:=hf.1
 have n3:=hf'.2.2
 clear h h' hf hf'
 go_enter Tryz.func28,Tryz.ntmps28
 go_wp2_with fail
 obtain ⟨W,hW⟩:∃ W,(w.alloc (.cells #[.slice p1 p.caps.length a1,.slice p2 p.bods.length a2] 27)).alloc (.cells #[.slice s1 d.ths.length c1,.slice s2 d.chs.length c2,.slice s3 d.tr.length c3] 32)=W:=⟨_,rfl⟩
 obtain ⟨ka,z0,z1,⟨x0,x1⟩,y0,y1,y2⟩:=fiveB hW
 rw [hW]
 clear hW
 have K:Hid (Below w.heap.size w W):=ka
 clear ka
 refine (implProg_any p1 p2 a1 a2 lo hi p W (H.out.keep' (Keep.of_below K.out hB)) (by omega) FP.out).mono ?_
 rintro e w1 ⟨rfl,hb1⟩
 have K1:Hid (Below w.heap.size w w1):=K.out.trans (hb1.mono (by omega))
 have x0':=(hb1.cell (p:=⟨w.heap.size,0,none⟩) z0).trans x0
 have x1':=(hb1.cell (p:=⟨w.heap.size,1,none⟩) z0).trans x1
 have y0':=(hb1.cell (p:=⟨w.heap.size+1,0,none⟩) z1).trans y0
 have y1':=(hb1.cell (p:=⟨w.heap.size+1,1,none⟩) z1).trans y1
 have y2':=(hb1.cell (p:=⟨w.heap.size+1,2,none⟩) z1).trans y2
 have zs:=hb1.size
 have z0':w.heap.size < w1.heap.size:=by omega
 have z1':w.heap.size+1 < w1.heap.size:=by omega
 clear x0 x1 y0 y1 y2 hb1 K z0 z1 zs
 cases hp:progB p
 ·have F:Hid (srcB p d=false):=src1 hp
  clear hp
  go_wp2
  go_ret
  exact ⟨by rw [F.out];rfl,K1.out⟩
 have HP:Hid (progB p=true):=hp
 clear hp
 go_wp2_with fail
 refine (threadsOk_any s1 p2 c1 a2 lo' hi' lo hi d.ths p.bods w1 (H'.out.keep (Keep.of_below K1.out hB')).1 (H.out.keep' (Keep.of_below K1.out hB)).2 (by omega) (by omega) FS.out.1.1 FS.out.1.2 FP.out.2.1 FP.out.2.2).mono ?_
 rintro e w2 ⟨rfl,hb2⟩
 have K2:Hid (Below w.heap.size w w2):=K1.out.trans (hb2.mono (by omega))
 have x0:=(hb2.cell (p:=⟨w.heap.size,0,none⟩) z0').trans x0'
 have x1:=(hb2.cell (p:=⟨w.heap.size,1,none⟩) z0').trans x1'
 have y1:=(hb2.cell (p:=⟨w.heap.size+1,1,none⟩) z1').trans y1'
 have y2:=(hb2.cell (p:=⟨w.heap.size+1,2,none⟩) z1').trans y2'
 have zs:=hb2.size
 have z0:w.heap.size < w2.heap.size:=by omega
 have z1:w.heap.size+1 < w2.heap.size:=by omega
 clear x0' x1' y0' y1' y2' hb2 K1 z0' z1' zs
 cases ht:thsB d.ths p.bods
 ·have F:Hid (srcB p d=false):=src2 ht
  clear ht
  go_wp2
  go_ret
  exact ⟨by rw [F.out];rfl,K2.out⟩
 have HTs:Hid (thsB d.ths p.bods=true):=ht
 clear ht
 go_wp2_with fail
 refine (chansOk_any s2 p1 c2 a1 lo' hi' lo hi d.chs p.caps w2 (H'.out.keep (Keep.of_below K2.out hB')).2.1 (H.out.keep' (Keep.of_below K2.out hB)).1 (by omega) (by omega) FS.out.2.1.1 FS.out.2.1.2 FP.out.1).mono ?_
 rintro e w3 ⟨rfl,hb3⟩
 have K3:Hid (Below w.heap.size w w3):=K2.out.trans (hb3.mono (by omega))
 have x1':=(hb3.cell (p:=⟨w.heap.size,1,none⟩) z0).trans x1
 have y2':=(hb3.cell (p:=⟨w.heap.size+1,2,none⟩) z1).trans y2
 have zs:=hb3.size
 have z0':w.heap.size < w3.heap.size:=by omega
 have z1':w.heap.size+1 < w3.heap.size:=by omega
 clear x0 x1 y1 y2 hb3 K2 z0 z1 zs
 cases hc:chsB d.chs p.caps
 ·have F:Hid (srcB p d=false):=src3 hc
  clear hc
  go_wp2
  go_ret
  exact ⟨by rw [F.out];rfl,K3.out⟩
 have F:Hid (srcB p d=trB d.tr p.bods.length):=src4 HP.out HTs.out hc
 clear hc
 go_wp2_with fail
 refine (traceOk_any s3 c3 lo' hi' p.bods.length d.tr w3 (H'.out.keep (Keep.of_below K3.out hB')).2.2 (by omega) n3 n1).mono ?_
 rintro e w4 ⟨rfl,hb4⟩
 have K4:Hid (Below w.heap.size w w4):=K3.out.trans (hb4.mono (by omega))
 clear x1' y2' hb4
 go_wp2
 go_ret
 exact ⟨by rw [F.out];rfl,K4.out⟩
end
section
set_option linter.unusedSimpArgs false
set_option linter.unusedVariables false
set_option maxRecDepth 100000
open Go.RowKit
def newS (p:PD):SD:=⟨List.replicate p.bods.length ⟨0,[0,0,0,0],0⟩,p.caps.map (fun c=>⟨c,[],false⟩),[]⟩
def zT:Rec:=⟨.int .i64 0,[0,0,0,0],.int .i64 0⟩
def zC (c:Int):Rec:=⟨.int .i64 c,[],.bool false⟩
theorem made4 {w:World} {base:Nat} (hb:base≤w.heap.size):OwnN (w.alloc (.cells (madeCells #[.int .i64 0] 4) 3)) base (.slice (some ⟨w.heap.size,0,none⟩) 4 4) [0,0,0,0]:=by
 have h:=World.ownsRow_lit (base:=base) (e:=3) (size:=1) w (madeCells #[.int .i64 0] 4) 4 hb (by unfold maxLen;omega) (size_madeCells _ _)
 have e:(madeCells #[.int .i64 0] 4).toList=[0,0,0,0].map (Value.int .i64):=by rw [show (4:Nat)=4 * 1 from rfl,toList_madeCells_one];rfl
 rw [e] at h
 exact h
theorem mk4 (w:World):(Instr.makeSlice 24 (.int .i64 4) (.int .i64 4)).run Tryz.prog w=.ok (.slice (some ⟨w.heap.size,0,none⟩) 4 4) (w.alloc (.cells (madeCells #[.int .i64 0] 4) 3)):=mkInt 4 (by omega) w
set_option maxHeartbeats 4000000 in
theorem specNew_yes (s s' : Option Addr) (c c' lo hi : Nat) (p : PD) (w : World) (h : ProgR w lo hi s s' p) (hB : hi ≤ w.heap.size) (hf : Fits p) (hy : progB p = true) :
  Calls Tryz.prog 59 #[.agg #[.slice s p.caps.length c,.slice s' p.bods.length c']] w fun e w'=>∃ v1 v2 v3 L1 L2,e=.returned (.tuple #[.agg #[v1,v2,v3],.bool true])∧OwnS w' w.heap.size v1 v2 v3 L1 L2 (newS p)∧Below w.heap.size w w':=by
 have HP:Hid (ProgR w lo hi s s' p):=h
 have HF:Hid (Fits p):=hf
 have HY:Hid (progB p=true):=hy
 obtain ⟨fa,fb,-⟩:=hf
 clear h hy
 go_enter Tryz.func59,Tryz.ntmps59
 go_wp2_with fail
 obtain ⟨W0,hW0,b0,k0,z0⟩:=Bo2.new w (.slice s p.caps.length c) (.slice s' p.bods.length c') 27
 rw [hW0]
 clear hW0
 obtain ⟨W1,hW1,b1,k1,z1⟩:=BoF.new W0 (.slice none 0 0) (.slice none 0 0) (.slice none 0 0) 32
 have K1:Below w.heap.size w W1:=k0.trans (k1.mono (by omega))
 have B0:=b0.keep (Keep.of_below k1 (by omega))
 rw [z0] at b1
 rw [hW1]
 clear hW1
 refine (specProg_any s s' c c' lo hi p W1 (HP.out.keep' (Keep.of_below K1 hB)) (by omega) HF.out).mono ?_
 rintro e w1 ⟨rfl,hb1⟩
 rw [HY.out]
 have zw:=hb1.size
 have KW:Hid (Below w.heap.size w w1):=K1.trans (hb1.mono (by omega))
 have R1:Hid (BoF (w.heap.size+1) w1 (.slice none 0 0) (.slice none 0 0) (.slice none 0 0)):=b1.below hb1 (by omega)
 have p1:=(B0.keep (Keep.of_below hb1 (by omega)))
 have P1:Hid (Bo2 w.heap.size w1 (.slice s p.caps.length c) (.slice s' p.bods.length c')):=p1
 have pc0:=p1.c0
 have pc1:=p1.c1
 have zz:w.heap.size+2≤w1.heap.size:=by omega
 have zl:w.heap.size < w1.heap.size:=by omega
 have HC:Hid (IntsR w1 lo hi s p.caps):=HP.out.1.keep (Keep.of_below KW.out hB)
 clear p1 b0 b1 k0 k1 z0 z1 K1 B0 hb1 zw W0 W1 HP
 have hmk:=mk4
 go_wp2
 go_loopw [5] (fun i wr=>∃ (k:Nat) (v1:Value) (L1:List (Rec×Value)),k≤p.bods.length∧i=.int .i64 k∧BoF w1.heap.size wr v1 (.slice none 0 0) (.slice none 0 0)∧OwnQ wr (w1.heap.size+1) 49 v1 L1∧L1.map Prod.fst=List.replicate k zT∧Below w1.heap.size w1 wr∧w1.heap.size+1≤wr.heap.size) (fun i _=>p.bods.length - (intOf i).toNat)
 case atStart=>
  obtain ⟨X,hX,bx,kx,zx⟩:=BoF.new w1 (.slice none 0 0) (.slice none 0 0) (.slice none 0 0) 32
  rw [hX]
  exact ⟨0,_,[],Nat.zero_le _,rfl,bx,OwnQ.nil _ _ _,rfl,kx,by omega⟩
 case round=>
  obtain ⟨k,v1,L1,hk,rfl,hx,ho,hm,hb,hz⟩:=hrel
  have HX:Hid (BoF w1.heap.size wr v1 (.slice none 0 0) (.slice none 0 0)):=hx
  have HO:Hid (OwnQ wr (w1.heap.size+1) 49 v1 L1):=ho
  have HM:Hid (L1.map Prod.fst=List.replicate k zT):=hm
  have HL1:Hid (L1.length≤1048576):=by have:=congrArg List.length hm;simp at this;show L1.length≤1048576;omega
  have HB:Hid (Below w1.heap.size w1 wr):=hb
  have q0:=(hb.cell (p:=⟨w.heap.size,0,none⟩) (by show w.heap.size < _;omega)).trans pc0
  have q1:=(hb.cell (p:=⟨w.heap.size,1,none⟩) (by show w.heap.size < _;omega)).trans pc1
  have e0:=hx.c0
  have e1:=hx.c1
  have e2:=hx.c2
  have l1:w1.heap.size < wr.heap.size:=by omega
  have l2:w.heap.size < wr.heap.size:=by omega
  clear hx ho hm hb
  by_cases hlt:k < p.bods.length
  ·have b0:(0:Int)≤(k:Int):=by omega
   have b1:(k:Int) < (p.bods.length:Int):=by omega
   go_wp2
   go_region_law (refine step_thread (by rfl) _ _ (by rfl) (wr.drew.alloc (.cells (madeCells #[.int .i64 0] 4) 3)) 0 [0,0,0,0] (.slice (some ⟨wr.heap.size,0,none⟩) 4 4) 0 (w1.heap.size+1) v1 L1 (by rfl) (HO.out.keep (fun k _ hk=>Below.heap_alloc wr.drew _ _ hk)) (made4 (w:=wr.drew) (by show w1.heap.size+1≤wr.heap.size;omega)) (by rw [World.size_alloc];rfl) (by have:=HL1.out;omega) (by rw [World.size_alloc];show w1.heap.size+1≤wr.heap.size+1;omega) rfl (fun i z k hz hk hk'=>by have h1:=(World.ownsRow.lt (HO.out.inn i z hz) _ hk').2;injection hk with hk;have h3:wr.heap.size=k:=hk;omega) ?_;intro g5 cap5 w5 hp5;have hG5:w5.heap[w1.heap.size]? =wr.heap[w1.heap.size]? :=(hp5.far w1.heap.size (by rw [World.size_alloc];show w1.heap.size < wr.heap.size+1;omega) (fun e=>by have:=(World.ownsRow.lt HO.out.row _ e).1;omega)).trans (Below.heap_alloc wr.drew _ _ (by show w1.heap.size < wr.heap.size;omega));have hz5:wr.heap.size+1≤w5.heap.size:=(by have h:=hp5.low.size;rw [World.size_alloc] at h;exact h);have x5:=HX.out.keep hG5 (by omega);have d0:=x5.c0;have d1:=x5.f;have X5:Hid (BoF w1.heap.size w5 v1 (.slice none 0 0) (.slice none 0 0)):=x5;have P5:=(show Hid _ from hp5);clear x5 hp5 hG5)
   all_goals
    go_wp2
    go_roundw
    case rel=>
     obtain ⟨g1,g2,g3,g4⟩:=P5.out
     refine ⟨k+1,_,L1++[(zT,.slice (some ⟨wr.heap.size,0,none⟩) 4 4)],by omega,by go_num,X5.out.set0 _,g1.keep (fun k hk hk'=>Below.heap_setCell _ _ _ k (by show k≠w1.heap.size;omega)),?_,?_,by simp;omega⟩
     ·rw [List.map_append,HM.out,List.replicate_succ'];rfl
     ·exact (HB.out.trans ((Below.drew (Below.refl _ _)).alloc (by show w1.heap.size≤wr.heap.size;omega) _ |>.trans (g3.mono (by omega)))).setCell (p:=⟨w1.heap.size,0,none⟩) (Nat.le_refl _) _
    case measure=>simp [intOf];omega
  ·have hke:k=p.bods.length:=by omega
   subst hke
   clear hlt hk hmk
   go_wp2
   go_loopw [6] (fun i wr=>∃ (k:Nat) (v2:Value) (L2:List (Rec×Value)),k≤p.caps.length∧i=.int .i64 k∧BoF w1.heap.size wr v1 v2 (.slice none 0 0)∧OwnQ wr (w1.heap.size+1) 49 v1 L1∧OwnQ wr (w1.heap.size+1) 65 v2 L2∧(∀ (j:Nat) (y:Rec×Value),L2[j]? =some y→y.2=.slice none 0 0)∧L2.map Prod.fst=(p.caps.take k).map zC∧Below w1.heap.size w1 wr∧w1.heap.size+1≤wr.heap.size) (fun i _=>p.caps.length - (intOf i).toNat)
   case atStart=>exact ⟨0,_,[],Nat.zero_le _,rfl,HX.out,HO.out,OwnQ.nil _ _ _,fun j y hy=>by simp at hy,rfl,HB.out,hz⟩
   case round=>
    clear HX HO HB q0 q1 e0 e1 e2 hz l1 l2
    obtain ⟨k,v2,L2,hk,rfl,hx,ho,ho2,hn2,hm2,hb,hz⟩:=hrel
    have HX:Hid (BoF w1.heap.size wr v1 v2 (.slice none 0 0)):=hx
    have HO:Hid (OwnQ wr (w1.heap.size+1) 49 v1 L1):=ho
    have HO2:Hid (OwnQ wr (w1.heap.size+1) 65 v2 L2):=ho2
    have HN2:=(show Hid _ from hn2)
    have HM2:Hid (L2.map Prod.fst=(p.caps.take k).map zC):=hm2
    have HL2:Hid (L2.length≤1048576):=by have:=congrArg List.length hm2;simp at this;show L2.length≤1048576;omega
    have HB:Hid (Below w1.heap.size w1 wr):=hb
    have q0:=(hb.cell (p:=⟨w.heap.size,0,none⟩) (by show w.heap.size < _;omega)).trans pc0
    have e0:=hx.c0
    have e1:=hx.c1
    have e2:=hx.c2
    have l1:w1.heap.size < wr.heap.size:=by omega
    have l2:w.heap.size < wr.heap.size:=by omega
    clear hx ho ho2 hm2 hb hn2
    by_cases hlt:k < p.caps.length
    ·obtain ⟨g,off,hs,hg,hc⟩:∃ g off,s=some ⟨g,off,none⟩∧g < hi∧w1.cell? ⟨g,off+k,none⟩=some (.int .i64 (p.caps.getD k 0)):=by
      rcases HC.out with h | ⟨g,off,a,b,d,e⟩
      ·rw [h] at hlt;simp at hlt
      ·exact ⟨g,off,a,d,e k hlt⟩
     subst hs
     have f0:=(HB.out.cell (p:=⟨g,off+k,none⟩) (by show g < _;omega)).trans hc
     have HT:Hid (p.caps[k]? =some (p.caps.getD k 0)):=by show _=_;rw [List.getD_eq_getElem?_getD,List.getElem?_eq_getElem hlt];rfl
     generalize p.caps.getD k 0=cc at f0 HT
     have b0:(0:Int)≤(k:Int):=by omega
     have b1:(k:Int) < (p.caps.length:Int):=by omega
     have l3:g < wr.heap.size:=by omega
     clear hc
     go_wp2
     go_region_law (refine step_chan (by rfl) _ _ (by rfl) wr.drew cc [] (.slice none 0 0) false (w1.heap.size+1) v2 L2 (by rfl) (HO2.out.keep (fun _ _ _=>rfl)) (World.ownsRow_nil _ _ _ _) (by rfl) (by have:=HL2.out;omega) (by show w1.heap.size+1≤wr.heap.size;omega) rfl (fun i z k hz hk hk'=>by cases hk) ?_;intro g5 cap5 w5 hp5;have hG5:w5.heap[w1.heap.size]? =wr.heap[w1.heap.size]? :=hp5.far w1.heap.size (by show w1.heap.size < wr.heap.size;omega) (fun e=>by have:=(World.ownsRow.lt HO2.out.row _ e).1;omega);have hz5:wr.heap.size≤w5.heap.size:=hp5.low.size;have x5:=HX.out.keep hG5 (by omega);have d0:=x5.c1;have d1:=x5.f;have X5:Hid (BoF w1.heap.size w5 v1 v2 (.slice none 0 0)):=x5;have P5:=(show Hid _ from hp5);clear x5 hp5 hG5)
     all_goals
      go_wp2
      go_roundw
      case rel=>
       obtain ⟨g1,g2,g3,g4⟩:=P5.out
       refine ⟨k+1,_,L2++[(zC cc,.slice none 0 0)],by omega,by go_num,X5.out.set1 _,?_,g1.keep (fun k hk hk'=>Below.heap_setCell _ _ _ k (by show k≠w1.heap.size;omega)),?_,?_,?_,by simp;omega⟩
       ·refine (HO.out.keepB (w':=w5) ?_ ?_).keep (fun k hk hk'=>Below.heap_setCell _ _ _ k (by show k≠w1.heap.size;omega))
        ·intro k hk
         exact g2 k (World.ownsRow.lt HO.out.row _ hk).2 (ownType' HO.out.row HO2.out.row (by decide) hk)
        ·intro i x hx k hk
         exact g2 k (World.ownsRow.lt (HO.out.inn i x hx) _ hk).2 (ownType' (HO.out.inn i x hx) HO2.out.row (by decide) hk)
       ·intro j y hy
        by_cases hj:j < L2.length
        ·rw [List.getElem?_append_left hj] at hy
         exact HN2.out j y hy
        ·rw [List.getElem?_append_right (by omega)] at hy
         have hj0:j - L2.length=0:=by have:=(List.getElem?_eq_some_iff.1 hy).1;simp at this;omega
         rw [hj0] at hy
         simp at hy
         rw [← hy]
       ·rw [List.map_append,HM2.out,List.take_add_one,HT.out,List.map_append];rfl
       ·exact (HB.out.trans ((Below.drew (Below.refl _ _)).trans (g3.mono (by omega)))).setCell (p:=⟨w1.heap.size,1,none⟩) (Nat.le_refl _) _
      case measure=>simp [intOf];omega
    ·have hke:k=p.caps.length:=by omega
     subst hke
     clear hlt hk
     have r1:=R1.out.below HB.out (by omega)
     have y0:=r1.c0
     have y1:=r1.c1
     have y2:=r1.c2
     have y3:=r1.f
     have RR:Hid (BoF (w.heap.size+1) wr (.slice none 0 0) (.slice none 0 0) (.slice none 0 0)):=r1
     clear r1
     obtain ⟨s1,d1,hv1⟩:=ownSl HO.out.row
     obtain ⟨s2,d2,hv2⟩:=ownSl HO2.out.row
     subst hv1
     subst hv2
     go_wp2
     have W3:=((RR.out.set0 (.slice s1 L1.length d1)).set1 (.slice s2 L2.length d2)).set2 (.slice none 0 0)
     have far:∀ k,w1.heap.size+1≤k→(((wr.setCell ⟨w.heap.size+1,0,none⟩ (.slice s1 L1.length d1)).setCell ⟨w.heap.size+1,1,none⟩ (.slice s2 L2.length d2)).setCell ⟨w.heap.size+1,2,none⟩ (.slice none 0 0)).heap[k]? =wr.heap[k]? :=fun k hk=>by rw [Below.heap_setCell _ _ _ k (by show k≠w.heap.size+1;omega),Below.heap_setCell _ _ _ k (by show k≠w.heap.size+1;omega),Below.heap_setCell _ _ _ k (by show k≠w.heap.size+1;omega)]
     refine bodyPost_ret (v:=.tuple #[.agg #[.slice s1 L1.length d1,.slice s2 L2.length d2,.slice none 0 0],.bool true]) (by simp [results,Tryz.results59,go_sem,W3.c0,W3.c1,W3.c2]) rfl ⟨_,_,_,L1,L2,rfl,⟨?_,?_,?_,?_,?_,?_⟩,?_⟩
     ·rw [HM.out];simp [newS,TD.rec3,zT]
     ·rw [HM2.out,List.take_length];simp [newS,CD.rec3,zC,Function.comp_def]
     ·exact (HO.out.keep (fun k hk _=>far k hk)).low (by omega)
     ·exact (HO2.out.keep (fun k hk _=>far k hk)).low (by omega)
     ·exact World.ownsRow_nil _ _ _ _
     ·intro i j x y k hx hy hk hk'
      rw [HN2.out j y hy] at hk'
      cases hk'
     ·exact (((KW.out.trans (HB.out.mono (by omega))).setCell (p:=⟨w.heap.size+1,0,none⟩) (by show w.heap.size≤w.heap.size+1;omega) _).setCell (p:=⟨w.heap.size+1,1,none⟩) (by show w.heap.size≤w.heap.size+1;omega) _).setCell (p:=⟨w.heap.size+1,2,none⟩) (by show w.heap.size≤w.heap.size+1;omega) _
set_option maxHeartbeats 1000000 in
theorem specNew_no (s s' : Option Addr) (c c' lo hi : Nat) (p : PD) (w : World) (h : ProgR w lo hi s s' p) (hB : hi ≤ w.heap.size) (hf : Fits p) (hy : progB p = false) :
  Calls Tryz.prog 59 #[.agg #[.slice s p.caps.length c,.slice s' p.bods.length c']] w fun e w'=>e=.returned (.tuple #[.agg #[.slice none 0 0,.slice none 0 0,.slice none 0 0],.bool false])∧Below w.heap.size w w':=by
 have HP:Hid (ProgR w lo hi s s' p):=h
 have HF:Hid (Fits p):=hf
 have HY:Hid (progB p=false):=hy
 clear h hf hy
 go_enter Tryz.func59,Tryz.ntmps59
 go_wp2_with fail
 obtain ⟨W0,hW0,b0,k0,z0⟩:=Bo2.new w (.slice s p.caps.length c) (.slice s' p.bods.length c') 27
 rw [hW0]
 clear hW0
 obtain ⟨W1,hW1,b1,k1,z1⟩:=BoF.new W0 (.slice none 0 0) (.slice none 0 0) (.slice none 0 0) 32
 have K1:Below w.heap.size w W1:=k0.trans (k1.mono (by omega))
 rw [z0] at b1
 rw [hW1]
 clear hW1
 refine (specProg_any s s' c c' lo hi p W1 (HP.out.keep' (Keep.of_below K1 hB)) (by omega) HF.out).mono ?_
 rintro e w1 ⟨rfl,hb1⟩
 rw [HY.out]
 have zw:=hb1.size
 have KW:Hid (Below w.heap.size w w1):=K1.trans (hb1.mono (by omega))
 have r1:=b1.below hb1 (by omega)
 have R1:Hid (BoF (w.heap.size+1) w1 (.slice none 0 0) (.slice none 0 0) (.slice none 0 0)):=r1
 have y0:=r1.c0
 have y1:=r1.c1
 have y2:=r1.c2
 have y3:=r1.f
 clear r1 b0 b1 k0 k1 z0 z1 K1 hb1 zw W0 W1 HP
 go_wp2
 have W3:=((R1.out.set0 (.slice none 0 0)).set1 (.slice none 0 0)).set2 (.slice none 0 0)
 exact bodyPost_ret (v:=.tuple #[.agg #[.slice none 0 0,.slice none 0 0,.slice none 0 0],.bool false]) (by simp [results,Tryz.results59,go_sem,W3.c0,W3.c1,W3.c2]) rfl ⟨rfl,((KW.out.setCell (p:=⟨w.heap.size+1,0,none⟩) (by show w.heap.size≤w.heap.size+1;omega) _).setCell (p:=⟨w.heap.size+1,1,none⟩) (by show w.heap.size≤w.heap.size+1;omega) _).setCell (p:=⟨w.heap.size+1,2,none⟩) (by show w.heap.size≤w.heap.size+1;omega) _⟩
def newA (p:PD):SD:=if progB p then newS p else ⟨[],[],[]⟩
theorem newA_fits (p:PD) (hf:Fits p):SFits (newA p):=by
 obtain ⟨a,b,-⟩:=hf
 unfold newA
 split
 ·refine ⟨⟨by simp [newS];omega,fun i t ht=>?_⟩,⟨by simp [newS];omega,fun i t ht=>?_⟩,by simp [newS]⟩
  ·have:=List.mem_of_getElem? ht
   simp [newS] at this
   rw [this.2]
   simp
  ·have:=List.mem_of_getElem? ht
   simp [newS] at this
   obtain ⟨x,-,rfl⟩:=this
   simp
 ·exact ⟨⟨by simp,fun i t ht=>by simp at ht⟩,⟨by simp,fun i t ht=>by simp at ht⟩,by simp⟩
theorem specNew_any (s s' : Option Addr) (c c' lo hi : Nat) (p : PD) (w : World) (h : ProgR w lo hi s s' p) (hB : hi ≤ w.heap.size) (hf : Fits p) :
  Calls Tryz.prog 59 #[.agg #[.slice s p.caps.length c,.slice s' p.bods.length c']] w fun e w'=>∃ v1 v2 v3 L1 L2,e=.returned (.tuple #[.agg #[v1,v2,v3],.bool (progB p)])∧OwnS w' w.heap.size v1 v2 v3 L1 L2 (newA p)∧Below w.heap.size w w':=by
 unfold newA
 cases hy:progB p with
 | true=>exact specNew_yes s s' c c' lo hi p w h hB hf hy
 | false=>
  refine (specNew_no s s' c c' lo hi p w h hB hf hy).mono ?_
  rintro e w' ⟨rfl,hb⟩
  exact ⟨_,_,_,[],[],rfl,⟨rfl,rfl,OwnQ.nil _ _ _,OwnQ.nil _ _ _,World.ownsRow_nil _ _ _ _,fun i j x y k hx=>by simp at hx⟩,hb⟩
end
section
set_option linter.unusedSimpArgs false
set_option linter.unusedVariables false
set_option maxRecDepth 100000
open Go.RowKit
/- the same operation, made to do nothing -/
def idle (o:Oper):Oper:={ o with op:=.assign (.const (.bool false)) }
def lastOk (l:List Oper) (o:Oper):Bool:=
 (List.range l.length).all (fun i=>o.after.any fun e=>Region.binds .any e&&e.on==i)&&((List.range (l.length+1)).all fun i=>((l++[o])[i]?.map fun x=>x.after.all fun e=>!Region.binds .any e||decide (e.on < i)).getD true)
theorem idle_at (l:List Oper) (o:Oper) (i:Nat):(i < l.length∧(l++[idle o])[i]? =l[i]? ∧(l++[o])[i]? =l[i]?)∨(i=l.length∧(l++[idle o])[i]? =some (idle o)∧(l++[o])[i]? =some o)∨(l.length < i∧(l++[idle o])[i]? =none∧(l++[o])[i]? =none):=by
 rcases Nat.lt_trichotomy i l.length with h | h | h
 ·exact .inl ⟨h,List.getElem?_append_left h,List.getElem?_append_left h⟩
 ·subst h
  exact .inr (.inl ⟨rfl,by simp,by simp⟩)
 ·exact .inr (.inr ⟨h,by simp;omega,by simp;omega⟩)
theorem ready_idle (l:List Oper) (o:Oper) (listed:Array Bool):Region.ready .any (l++[idle o]).toArray listed=Region.ready .any (l++[o]).toArray listed:=by
 unfold Region.ready
 have hs:(l++[idle o]).toArray.size=(l++[o]).toArray.size:=by simp
 rw [hs]
 refine List.filter_congr fun i _=>?_
 rw [List.getElem?_toArray,List.getElem?_toArray]
 rcases idle_at l o i with ⟨-,h1,h2⟩ | ⟨-,h1,h2⟩ | ⟨-,h1,h2⟩<;>rw [h1,h2]<;>rfl
theorem yielded_idle (l:List Oper) (o:Oper) (t:Array Value):yielded (l++[idle o]).toArray t=yielded (l++[o]).toArray t:=by
 funext j
 unfold yielded
 rw [List.getElem?_toArray,List.getElem?_toArray]
 rcases idle_at l o j with ⟨-,h1,h2⟩ | ⟨-,h1,h2⟩ | ⟨-,h1,h2⟩<;>rw [h1,h2]<;>rfl
theorem mem_ready {ops:Array Oper} {listed:Array Bool} {i:Nat}:i∈Region.ready .any ops listed↔i < ops.size∧listed.getD i true=false∧((ops[i]?).map (·.after.all fun e=>!Region.binds .any e||listed.getD e.on false)).getD false=true:=by
 unfold Region.ready
 rw [List.mem_filter,List.mem_range,Bool.and_eq_true,Bool.not_eq_true']
theorem ready_some {l:List Oper} {o:Oper} (hL:lastOk l o=true) {listed:Array Bool} (hs:listed.size=l.length+1):∀ (k:Nat),k≤l.length→listed.getD k true=false→Region.ready .any (l++[o]).toArray listed≠[]:=by
 intro k
 induction k using Nat.strongRecOn with
 | ind k ih=>
  intro hk hf
  by_cases h:∃ j,j < k∧listed.getD j true=false
  ·obtain ⟨j,h1,h2⟩:=h
   exact ih j h1 (by omega) h2
  ·intro hn
   have:k∈Region.ready .any (l++[o]).toArray listed:=by
    rw [mem_ready]
    refine ⟨by simp;omega,hf,?_⟩
    unfold lastOk at hL
    rw [Bool.and_eq_true,List.all_eq_true,List.all_eq_true] at hL
    have q:=hL.2 k (List.mem_range.2 (by omega))
    rw [List.getElem?_toArray]
    obtain ⟨x,hx⟩:∃ x,(l++[o])[k]? =some x:=⟨_,List.getElem?_eq_getElem (by simp;omega)⟩
    rw [hx] at q ⊢
    simp only [Option.map_some,Option.getD_some] at q ⊢
    rw [Array.all_eq_true'] at q ⊢
    intro e he
    have q':=q e he
    rw [Bool.or_eq_true] at q' ⊢
    rcases q' with q' | q'
    ·exact .inl q'
    ·refine .inr ?_
     rw [decide_eq_true_eq] at q'
     have hj:¬ listed.getD e.on true=false:=fun hh=>h ⟨e.on,q',hh⟩
     have hlt:e.on < listed.size:=by omega
     simp only [Array.getD,hlt,dif_pos] at hj ⊢
     simpa using hj
   rw [hn] at this
   cases this
theorem ready_last {l:List Oper} {o:Oper} (hL:lastOk l o=true) {listed:Array Bool} (hs:listed.size=l.length+1) (h:l.length∈Region.ready .any (l++[o]).toArray listed):Region.ready .any (l++[o]).toArray (listed.setIfInBounds l.length true)=[]:=by
 rw [mem_ready] at h
 obtain ⟨-,-,h⟩:=h
 have e:(l++[o]).toArray[l.length]? =some o:=by rw [List.getElem?_toArray];simp
 rw [e] at h
 simp only [Option.map_some,Option.getD_some] at h
 rw [Array.all_eq_true'] at h
 unfold lastOk at hL
 rw [Bool.and_eq_true,List.all_eq_true] at hL
 refine List.eq_nil_iff_forall_not_mem.2 fun i hi=>?_
 rw [mem_ready] at hi
 obtain ⟨h1,h2,-⟩:=hi
 simp at h1
 by_cases hil:i=l.length
 ·subst hil
  have:l.length < listed.size:=by omega
  simp [Array.getD,this] at h2
 ·have q:=hL.1 i (List.mem_range.2 (by omega))
  rw [Array.any_eq_true'] at q
  obtain ⟨x,hx,q⟩:=q
  rw [Bool.and_eq_true,beq_iff_eq] at q
  have:=h x hx
  rw [q.1,q.2] at this
  have hlt:i < listed.size:=by omega
  simp [Array.getD,hlt] at this
  simp [Array.getD,hlt,Array.getElem_setIfInBounds,Ne.symm hil,this] at h2
theorem any_done {P:Program} {ops:Array Oper} {Q:Exit→Act→World→Prop} {listed:Array Bool} (hr:Region.ready .any ops listed=[]) {a:Act} {w:World} (h:Q .normal a w):∀ fuel,wpAny P .any ops Q fuel listed a w
 | 0=>⟨hr,h⟩
 | _+1=>⟨fun _=>h,by rw [hr];simp⟩
theorem last_conv {P : Program} {Q : Exit → Act → World → Prop} {C : World → Prop} {Qa : Act → Prop} {l : List Oper} {o : Oper} (hL : lastOk l o = true) (hg : o.guard = none) (hd : o.dst = none) {A : Array Oper} (hQ : ∀ a w, C w → Qa a → wpList P A Q [o] a w) :
  ∀ (fuel:Nat) (listed:Array Bool) (a:Act) (w:World),listed.size=l.length+1→listed.getD l.length true=false→C w→wpAnyQ P .any (l++[idle o]).toArray C Qa fuel listed a→wpAny P .any (l++[o]).toArray Q fuel listed a w
 | 0,listed,a,w,hs,hf,hC,h=>absurd ((ready_idle l o listed)▸h.1) (ready_some hL hs l.length (Nat.le_refl _) hf)
 | fuel+1,listed,a,w,hs,hf,hC,h=>by
  refine ⟨fun h0=>absurd h0 (ready_some hL hs l.length (Nat.le_refl _) hf),fun i hi=>?_⟩
  have hq:=h.2 i ((ready_idle l o listed).symm▸hi)
  have hlt:=(mem_ready.1 hi).1
  simp at hlt
  by_cases hil:i=l.length
  ·subst hil
   have hr:=ready_last hL hs hi
   have e':(l++[idle o]).toArray[l.length]? =some (idle o):=by rw [List.getElem?_toArray];simp
   have e:(l++[o]).toArray[l.length]? =some o:=by rw [List.getElem?_toArray];simp
   unfold qOp at hq
   simp only [e'] at hq
   have hw:∀ t,Region.wanted (idle o) t=true:=fun t=>by simp [Region.wanted,idle,hg]
   have hw':∀ t,Region.wanted o t=true:=fun t=>by simp [Region.wanted,hg]
   rw [if_pos (hw _)] at hq
   obtain ⟨v,-,hq⟩:=hq
   have ep:a.put (idle o).dst v=a:=by show a.put o.dst v=a;rw [hd];rfl
   rw [ep] at hq
   have ha:Qa a:=by
    cases fuel with
    | zero=>exact hq.2
    | succ n=>exact hq.1 (by rw [ready_idle];exact hr)
   unfold wpOp
   simp only [e]
   rw [if_pos (hw' _)]
   have hh:=hQ a w hC ha
   unfold wpList at hh
   rw [if_pos (hw' _)] at hh
   exact hh.imp (Oper.wp_mono (fun a' w' hh=>any_done hr hh fuel)) id
  ·have hi2:i < l.length:=by omega
   have ee:(l++[idle o]).toArray[i]? =(l++[o]).toArray[i]? :=by rw [List.getElem?_toArray,List.getElem?_toArray,List.getElem?_append_left hi2,List.getElem?_append_left hi2]
   have hq':qOp P (l++[o]).toArray C i (wpAnyQ P .any (l++[idle o]).toArray C Qa fuel (listed.setIfInBounds i true)) a:=by
    unfold qOp at hq ⊢
    rw [ee,yielded_idle] at hq
    exact hq
   refine wpOp_of_qOp hC (fun a' w' hC' hk=>last_conv hL hg hd hQ fuel _ a' w' (by simpa using hs) ?_ hC' hk) hq'
   have h9:l.length < listed.size:=by omega
   simp only [Array.getD,h9,dif_pos] at hf
   simp [Array.getD,h9,Array.getElem_setIfInBounds,hil]
   simpa using hf
theorem quiet_snoc {P:Program} {ops:Array Oper} {C:World→Prop} {Qa:Act→Prop} {o:Oper} (hg:o.guard=none) (hd:o.dst=none):∀ (l:List Oper) (a:Act),wpQuiet P ops C Qa l a→wpQuiet P ops C Qa (l++[idle o]) a
 | [],a,h=>by
  have hw:Region.wanted (idle o) (yielded ops a.tmps)=true:=by simp [Region.wanted,idle,hg]
  refine BigFrame.wpQuiet_want hw fun K hK=>?_
  refine BigFrame.quiet_assign (.const (.bool false)) rfl ?_
  refine hK _ ?_
  show Qa (a.put o.dst _)
  rw [hd]
  exact h
 | x::r,a,h=>by
  unfold wpQuiet at h
  show wpQuiet P ops C Qa (x::(r++[idle o])) a
  unfold wpQuiet
  split
  ·rename_i hw
   rw [if_pos hw] at h
   exact Oper.quiet_mono (fun a'=>quiet_snoc hg hd r a') h
  ·rename_i hw
   rw [if_neg hw] at h
   exact quiet_snoc hg hd r _ h
theorem regionLast {P : Program} {id : Nat} {Q : Exit → Act → World → Prop} {a : Act} (W : World) {full : List Oper} (o : Oper) (hf : full.getLast? = some o) (hm : P.follows .mixedOrders = true) (hB : Region.lexB .any (full.dropLast ++ [idle o]).toArray = true) (hL : lastOk full.dropLast o = true) (hg : o.guard = none) (hd : o.dst = none)
  (h:wpQuiet P (full.dropLast++[idle o]).toArray (fun w'=>∃ x:Ext W,w'=x.w) (fun a'=>∀ w',(∃ x:Ext W,w'=x.w)→wpList P full.toArray Q [o] a' w') full.dropLast a):(Code.region id full.toArray true).wp P Q a W:=by
 have hfull:full=full.dropLast++[o]:=by
  have hne:full≠[]:=fun e=>by rw [e] at hf;cases hf
  rw [List.getLast?_eq_some_getLast hne] at hf
  injection hf with hf
  rw [← hf]
  exact (List.dropLast_concat_getLast hne).symm
 have hq:=quiet_snoc hg hd _ _ h
 simp only [Region.lexB,Bool.and_eq_true] at hB
 have h2:=wpAnyQ_lex (md:=.any) hB.1 (full.dropLast++[idle o]) 0 (Array.replicate (full.dropLast++[idle o]).toArray.size false) a (by simp) (by simpa using hB.2) hq
 have hgoal:(Code.region id (full.dropLast++[o]).toArray true).wp P Q a W→(Code.region id full.toArray true).wp P Q a W:=fun hh=>by rw [← hfull] at hh;exact hh
 refine hgoal ?_
 refine wp_region_any hm ?_
 have hn:(full.dropLast++[o]).toArray.size=full.dropLast.length+1:=by simp
 rw [hn]
 refine last_conv (C:=fun w'=>∃ x:Ext W,w'=x.w) (Qa:=fun a'=>∀ w',(∃ x:Ext W,w'=x.w)→wpList P full.toArray Q [o] a' w') hL hg hd (fun a' w' hC hh=>hh w' hC) _ _ _ _ (by simp) ?_ ⟨⟨{ W with drawn:=W.drawn+1 },⟨rfl,rfl,rfl,Nat.le_refl _,fun _ _=>rfl⟩⟩,rfl⟩ ?_
 ·simp [Array.getD]
 ·have e2:(full.dropLast++[idle o]).toArray.size=full.dropLast.length+1:=by simp
  rw [e2] at h2
  simpa using h2
end
end Go.Proofs.YtknffngbdakblaaGreat
