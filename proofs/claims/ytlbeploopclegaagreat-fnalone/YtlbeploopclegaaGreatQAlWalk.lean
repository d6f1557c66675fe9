/- A walk: its mutex is free, a core has its step, how far it is is told; Alone of the program. Conditions: the machine lies in memory as the reading says. -/
import Derived.Test.YtlbeploopclegaaGreatQG26
import Derived.Test.YtlbeploopclegaaGreatQG11
import Derived.Test.YtlbeploopclegaaGreatQG18
import Derived.Defers
import Derived.Laws.Pointers
import Derived.Laws.LoneSync
import Derived.RegionTactic
import Derived.RegionCalls
namespace Go.Proofs.YtlbeploopclegaaGreat
set_option linter.unusedSimpArgs false
set_option linter.unusedVariables false
set_option maxRecDepth 100000
open Go.RowKit
theorem raceOffW (w:World):(callFunc 137 #[]).run Tryz.prog w=.ok (.value (.tuple #[])) w:=run_call_mark0 Tryz.func137 (by kernel_rfl) (by kernel_rfl) (by kernel_rfl) .disable (by kernel_rfl) w
theorem raceOnW (w:World):(callFunc 139 #[]).run Tryz.prog w=.ok (.value (.tuple #[])) w:=run_call_mark0 Tryz.func139 (by kernel_rfl) (by kernel_rfl) (by kernel_rfl) .enable (by kernel_rfl) w
theorem raceAcqW (a:Addr) (w:World):(callFunc 140 #[.pointer (some a)]).run Tryz.prog w=.ok (.value (.tuple #[])) w:=run_call_marked Tryz.func140 (by kernel_rfl) (by kernel_rfl) (by kernel_rfl) .acquire (by kernel_rfl) a w
theorem raceRelW (a:Addr) (w:World):(callFunc 142 #[.pointer (some a)]).run Tryz.prog w=.ok (.value (.tuple #[])) w:=run_call_marked Tryz.func142 (by kernel_rfl) (by kernel_rfl) (by kernel_rfl) .releaseMerge (by kernel_rfl) a w
theorem unlockW (a : Addr) (u : FrameMode) (w : World) (hc : w.cell? a = some (.int .i32 1)) (hz : w.frozen? a = false) :
  CallsD Tryz.prog 98 #[.pointer (some a)] u w fun e u' w'=>u'=u∧(e=.returned (.tuple #[])∧w'=w.setCell a (.int .i32 0)):=by
 have hd:=raceOffW
 have he:=raceOnW
 have hr:=raceRelW
 have hadd:=run_call_add (P:=Tryz.prog) Tryz.func143 (by kernel_rfl) (by kernel_rfl) (by kernel_rfl) .i32 (by kernel_rfl) (y:=-1) (s:=0) hc hz (by simp [go_sem];rfl)
 have hcv:=run_convert_to_unsafe (P:=Tryz.prog) (src:=194) (dst:=198) Tryz.underlying194 Tryz.underlying198 (by kernel_rfl) hc
 go_enter_d Tryz.func98,Tryz.ntmps98
 go_wp2
 go_end0
 go_wp2
 go_end0
 exact ⟨rfl,rfl⟩
theorem lockW (a : Addr) (w : World) (hc : w.cell? a = some (.int .i32 0)) (hz : w.frozen? a = false) :
  Calls Tryz.prog 97 #[.pointer (some a)] w fun e w'=>e=.returned (.tuple #[])∧w'=w.setCell a (.int .i32 1):=by
 have hd:=raceOffW
 have he:=raceOnW
 have ha:=raceAcqW
 have hcas:=run_call_cas_hit (P:=Tryz.prog) Tryz.func138 (by kernel_rfl) (by kernel_rfl) (by kernel_rfl) .i32 (by kernel_rfl) (y:=1) hc hz
 have hc':(w.setCell a (.int .i32 1)).cell? a=some (.int .i32 1):=World.cell?_setCell_same w a _ hc
 have hcv:=run_convert_to_unsafe (P:=Tryz.prog) (src:=194) (dst:=198) Tryz.underlying194 Tryz.underlying198 (by kernel_rfl) hc'
 go_enter Tryz.func97,Tryz.ntmps97
 go_wp2
 first | go_end0 | (simp only [Exit.inBlock,Exit.then];refine bodyPost_ret (results_none rfl _ _ _) rfl ?_) | refine bodyPost_ret (results_none rfl _ _ _) rfl ?_
 go_wp2
 go_end0
 exact ⟨rfl,rfl⟩
theorem add64 (a : Addr) (g : Int) (w : World) (hc : w.cell? a = some (.int .i64 g)) (hz : w.frozen? a = false) :
  Calls Tryz.prog 100 #[.pointer (some a),.int .i64 1] w fun e w'=>(∃ v,e=.returned v)∧∃ z:Int,w'=w.setCell a (.int .i64 z):=by
 have hadd:=run_call_add (P:=Tryz.prog) Tryz.func126 (by kernel_rfl) (by kernel_rfl) (by kernel_rfl) .i64 (by kernel_rfl) (y:=1) (s:=IntKind.i64.wrap (g+1)) hc hz (by simp [go_sem])
 go_enter Tryz.func100,Tryz.ntmps100
 go_wp2
 go_ret
 exact ⟨⟨_,rfl⟩,_,rfl⟩
/- the box of a walk -/
structure Wk (V:World) (bm:Nat) (vc vk vm vt:Value):Prop where
 l:V.cell? ⟨bm,0,none⟩=some (.int .i32 0)
 m0:V.cell? ⟨bm,2,none⟩=some vc
 m1:V.cell? ⟨bm,3,none⟩=some vk
 m2:V.cell? ⟨bm,4,none⟩=some vm
 m3:V.cell? ⟨bm,5,none⟩=some vt
 s:∀ j,j < 4→V.cell? ⟨bm,7+j,none⟩=some (.slice none 0 0)
 g:∀ j,j < 4→∃ g:Int,V.cell? ⟨bm,12+j,none⟩=some (.int .i64 g)
 f:∀ j,V.frozen? ⟨bm,j,none⟩=false
 bx:BxW V bm
theorem mach_c4 {d:MD} (h:machB d=true):d.cores.length≤4:=by
 have h1:=mach_len h
 unfold machB at h
 simp only [Bool.and_eq_true] at h
 have h2:=h.1
 unfold codesB at h2
 simp only [Bool.and_eq_true] at h2
 have h3:=of_decide_eq_true h2.1
 omega
def StepR (V:World) (B bm:Nat) (vc vk vm:Value) (LC:List CV) (x:MD) (w':World):Prop:=∃ vt' LK' S',MQ0 w' B vc vk vm vt' LC LK' S' x∧Wk w' bm vc vk vm vt'∧Below B V w'
/- one cell of the walk's box but the machine's and the mutex -/
theorem wk_of {V V1 w2 W:World} {B bm:Nat} {vc vk vm vt:Value} {LC:List CV} {D:MD} (tr:ToldR V1 B bm vc vk vm LC D w2) (wk:Wk V bm vc vk vm vt) (e1:∀ j,j≠0→V1.cell? ⟨bm,j,none⟩=V.cell? ⟨bm,j,none⟩) (k1:Below B V V1) (c0:W.cell? ⟨bm,0,none⟩=some (.int .i32 0)) (hc:∀ j,j≠0→j < 12→W.cell? ⟨bm,j,none⟩=w2.cell? ⟨bm,j,none⟩) (hg:∀ j,j < 4→∃ z:Int,W.cell? ⟨bm,12+j,none⟩=some (.int .i64 z)) (hf:∀ j,W.frozen? ⟨bm,j,none⟩=w2.frozen? ⟨bm,j,none⟩) (hb:Below B w2 W) (hx:BxW W bm) (hq:∀ vt' LK' S',MQ0 w2 B vc vk vm vt' LC LK' S' D→MQ0 W B vc vk vm vt' LC LK' S' D):StepR V B bm vc vk vm LC D W:=by
 obtain ⟨vt',LK',S',q,q5,cj,fj,bx,b⟩:=tr
 have cc:∀ j,j≠0→j≠5→j < 12→W.cell? ⟨bm,j,none⟩=V.cell? ⟨bm,j,none⟩:=fun j h0 h5 h12=>(hc j h0 h12).trans ((cj j h5).trans (e1 j h0))
 exact ⟨vt',LK',S',hq _ _ _ q,⟨c0,(cc 2 (by omega) (by omega) (by omega)).trans wk.m0,(cc 3 (by omega) (by omega) (by omega)).trans wk.m1,(cc 4 (by omega) (by omega) (by omega)).trans wk.m2,(hc 5 (by omega) (by omega)).trans q5,fun j hj=>(cc (7+j) (by omega) (by omega) (by omega)).trans (wk.s j hj),hg,fun j=>(hf j).trans (fj j),hx⟩,k1.trans (b.trans hb)⟩
theorem cellO {w:World} {b i j:Nat} {v:Value} (h:i≠j):(w.setCell ⟨b,i,none⟩ v).cell? ⟨b,j,none⟩=w.cell? ⟨b,j,none⟩:=World.cell?_setCell_other w ⟨b,i,none⟩ ⟨b,j,none⟩ _ (by intro e;injection e with _ e _;exact h e)
theorem walk_fin {V V1 w2 : World} {B bm : Nat} {vc vk vm vt : Value} {LC : List CV} {D : MD} (tr : ToldR V1 B bm vc vk vm LC D w2) (wk : Wk V bm vc vk vm vt) (e1 : ∀ j, j ≠ 0 → V1.cell? ⟨bm, j, none⟩ = V.cell? ⟨bm, j, none⟩) (g0 : V1.cell? ⟨bm, 0, none⟩ = some (.int .i32 1)) (k1 : Below B V V1) (bB : B ≤ bm) :
  StepR V B bm vc vk vm LC D (w2.setCell ⟨bm,0,none⟩ (.int .i32 0))∧∀ (j:Nat) (z:Int),j < 4→StepR V B bm vc vk vm LC D ((w2.setCell ⟨bm,12+j,none⟩ (.int .i64 z)).setCell ⟨bm,0,none⟩ (.int .i32 0)):=by
 have tr':=tr
 obtain ⟨vt',LK',S',q,q5,cj,fj,bx,b⟩:=tr'
 have c0:=(cj 0 (by omega)).trans g0
 have gg:∀ j,j < 4→∃ z:Int,w2.cell? ⟨bm,12+j,none⟩=some (.int .i64 z):=fun j hj=>by
  obtain ⟨z,hz⟩:=wk.g j hj
  exact ⟨z,(cj (12+j) (by omega)).trans ((e1 (12+j) (by omega)).trans hz)⟩
 refine ⟨wk_of tr wk e1 k1 (World.cell?_setCell_same _ _ _ c0) (fun j h _=>cellO (Ne.symm h)) (fun j hj=>?_) (fun j=>World.frozen?_setCell ..) ((Below.refl _ _).setCell (p:=⟨bm,0,none⟩) bB _) bx.set (fun _ _ _ q=>q.offW bx),fun j z hj=>wk_of tr wk e1 k1 (World.cell?_setCell_same _ _ _ ((cellO (by omega)).trans c0)) (fun i h h12=>(cellO (Ne.symm h)).trans (cellO (by omega))) (fun i hi=>?_) (fun i=>(World.frozen?_setCell ..).trans (World.frozen?_setCell ..)) (((Below.refl _ _).setCell (p:=⟨bm,12+j,none⟩) bB _).setCell (p:=⟨bm,0,none⟩) bB _) bx.set.set (fun _ _ _ q=>(q.offW bx).offW bx.set)⟩
 ·obtain ⟨z,hz⟩:=gg j hj
  exact ⟨z,(cellO (by omega)).trans hz⟩
 ·by_cases e:i=j
  ·subst e
   obtain ⟨z',hz⟩:=gg i hi
   exact ⟨z,(cellO (by omega)).trans (World.cell?_setCell_same _ _ _ hz)⟩
  ·obtain ⟨z',hz⟩:=gg i hi
   exact ⟨z',(cellO (by omega)).trans ((cellO (by omega)).trans hz)⟩
set_option maxRecDepth 100000 in
set_option maxHeartbeats 4000000 in
theorem walkStep_any {V : World} {B bm who : Nat} {vc vk vm vt : Value} {LC : List CV} {LK : List KV} {S : List RS} {d : MD} (h : MQ0 V B vc vk vm vt LC LK S d) (wk : Wk V bm vc vk vm vt) (bB : B ≤ bm) (hB : B ≤ V.heap.size) (hm : machB d = true) (hw : who < d.cores.length) :
  Calls Tryz.prog 69 #[.pointer (some ⟨bm,0,none⟩),.int .i64 who] V fun e w'=>e=.returned (.bool (decide ((stepM d who 0).2=0)))∧StepR V B bm vc vk vm LC (stepM d who 0).1 w':=by
 have hw4:who < 4:=by have:=mach_c4 hm;omega
 have zm:=wk.bx.lt
 have c0:=wk.l
 have f0:=wk.f 0
 have BB:Hid (B≤bm∧B≤V.heap.size):=⟨bB,hB⟩
 obtain ⟨V1,hV1⟩:∃ V1,(V.setCell ⟨bm,0,none⟩ (.int .i32 1)).drew=V1:=⟨_,rfl⟩
 have e1:∀ j,j≠0→V1.cell? ⟨bm,j,none⟩=V.cell? ⟨bm,j,none⟩:=fun j hj=>by
  rw [← hV1]
  exact World.cell?_setCell_other V ⟨bm,0,none⟩ ⟨bm,j,none⟩ _ (by intro e;injection e with _ e _;exact hj e.symm)
 have g0:V1.cell? ⟨bm,0,none⟩=some (.int .i32 1):=by rw [← hV1];exact World.cell?_setCell_same V _ _ c0
 have fz:∀ j,V1.frozen? ⟨bm,j,none⟩=false:=fun j=>by rw [← hV1];exact (World.frozen?_setCell ..).trans (wk.f j)
 have b1:BxW V1 bm:=by rw [← hV1];exact (wk.bx.set (g:=bm) (o:=0) (v:=.int .i32 1)).same rfl
 have k1:Below B V V1:=by rw [← hV1];exact ((Below.refl _ _).setCell (p:=⟨bm,0,none⟩) bB _).drew
 have s1:V1.heap.size=V.heap.size:=by rw [← hV1];simp
 have q1:MQ0 V1 B vc vk vm vt LC LK S d:=by
  rw [← hV1]
  exact (h.offW (j:=0) (u:=.int .i32 1) wk.bx).keep (fun _ _ _=>rfl) (Nat.le_refl _)
 have TOLD:=told_any q1 ((e1 2 (by omega)).trans wk.m0) ((e1 3 (by omega)).trans wk.m1) ((e1 4 (by omega)).trans wk.m2) ((e1 5 (by omega)).trans wk.m3) fz b1 bB (by omega) hm hw
 have L7:=(e1 (7+who) (by omega)).trans (wk.s who hw4)
 have WK:=hidM1 wk
 have E1:=hidM1 e1
 have K1:=hidM1 k1
 have HV1:=hidM1 hV1
 have TL:=hidM1 TOLD
 have L7':=hidM1 L7
 have G0:=hidM1 g0
 have Z1:Hid (bm < V1.heap.size):=by show _ < _;omega
 have W4:=hidM1 hw4
 clear h wk TOLD L7 e1 g0 fz b1 k1 s1 q1 hV1 bB hB hm hw
 obtain ⟨X,hX⟩:∃ X,stepM d who 0=X:=⟨_,rfl⟩
 rw [hX] at TL ⊢
 clear hX
 go_enter_defers Tryz.func69,Tryz.ntmps69
 go_wp2_with (first | (go_at_call 97;refine (lockW ⟨bm,0,none⟩ _ c0 f0).mono ?_;rintro e w' ⟨rfl,hw⟩;have HW:=hidM1 hw;clear hw) | fail)
 have hw:=HW.out
 subst hw
 clear HW c0 f0
 have zs:bm < (V.setCell ⟨bm,0,none⟩ (.int .i32 1)).heap.size:=by simpa using zm
 have l7:(V.setCell ⟨bm,0,none⟩ (.int .i32 1)).drew.cell? ⟨bm,7+who,none⟩=some (.slice none 0 0):=by rw [HV1.out];exact L7'.out
 have b0:(0:Int)≤(who:Int):=by omega
 have b4:(who:Int) < 4:=by have:=W4.out;omega
 have TL':Hid (Calls Tryz.prog 99 #[.pointer (some ⟨bm,2,none⟩),.slice none 0 0,.agg #[.int .i64 who,.int .i64 0]] ((V.setCell ⟨bm,0,none⟩ (.int .i32 1)).drew) fun e w'=>e=.returned (.tuple #[.int .i64 X.2,.bool false])∧ToldR V1 B bm vc vk vm LC X.1 w'):=by
  show Calls _ _ _ _ _
  rw [HV1.out]
  exact TL.out
 have CJ:Hid (∀ (D:MD) (w2:World),ToldR V1 B bm vc vk vm LC D w2→w2.cell? ⟨bm,0,none⟩=some (.int .i32 1)∧w2.cell? ⟨bm,7+who,none⟩=some (.slice none 0 0)∧(∃ z:Int,w2.cell? ⟨bm,12+who,none⟩=some (.int .i64 z))∧∀ j,w2.frozen? ⟨bm,j,none⟩=false):=fun D w2 tr=>by
  obtain ⟨-,-,-,-,-,cj,fj,-,-⟩:=tr
  obtain ⟨z,hz⟩:=WK.out.g who W4.out
  exact ⟨(cj 0 (by omega)).trans G0.out,(cj (7+who) (by omega)).trans L7'.out,⟨z,(cj (12+who) (by omega)).trans ((E1.out (12+who) (by omega)).trans hz)⟩,fj⟩
 have FIN:Hid (∀ (D:MD) (w2:World),ToldR V1 B bm vc vk vm LC D w2→StepR V B bm vc vk vm LC D (w2.setCell ⟨bm,0,none⟩ (.int .i32 0))∧∀ (j:Nat) (z:Int),j < 4→StepR V B bm vc vk vm LC D ((w2.setCell ⟨bm,12+j,none⟩ (.int .i64 z)).setCell ⟨bm,0,none⟩ (.int .i32 0))):=fun D w2 tr=>walk_fin tr WK.out E1.out G0.out K1.out BB.out.1
 obtain ⟨D,cc⟩:=X
 clear TL HV1 E1 G0 K1 L7' WK Z1
 go_wp2_with fail
 by_cases h0:cc=0
 case' pos=>
  subst h0
 case' neg=>
  have c1:(cc !=0)=true:=by simp;omega
  have c2:decide (cc=0)=false:=decide_eq_false h0
 all_goals
  go_region_held3 (fun w'=>w'.cell? ⟨bm,7+who,none⟩=some (.slice none 0 0)) (go_keep) (first | (go_at_call 99;with_reducible refine TL'.out.mono ?_;rintro e w2 ⟨rfl,tr⟩;have TR:=hidM1 tr;clear tr;obtain ⟨g0,g7,⟨gz,gg⟩,gf⟩:=CJ.out _ w2 TR.out;have gf0:=gf 0;have gf1:=gf (12+who)) | fail)
 case' pos=>
  clear l7 zs g7 TL' CJ gf
  go_wp2_with (first | (go_at_call 100;refine (add64 ⟨bm,12+who,none⟩ gz _ gg gf1).mono ?_;rintro e w' ⟨⟨v,rfl⟩,z,hw⟩;have HW:=hidM1 hw;clear hw) | fail)
  have hw:=HW.out
  subst hw
  clear HW
  refine leaves_cons (f:=98) (args:=#[.pointer (some ⟨bm,0,none⟩)]) (by simp [settle]) (by simp [go_sem]) ?_
  refine (unlockW ⟨bm,0,none⟩ _ _ ((cellO (by omega)).trans g0) ((World.frozen?_setCell ..).trans gf0)).mono ?_
  rintro e u' w'' ⟨rfl,rfl,rfl⟩
  simp [Leaves,settle,results,Tryz.results69]
  exact (FIN.out _ w2 TR.out).2 who z W4.out
 case' neg=>
  clear l7 zs g7 TL' CJ gf
  go_wp2_with fail
  refine leaves_cons (f:=98) (args:=#[.pointer (some ⟨bm,0,none⟩)]) (by simp [settle]) (by simp [go_sem]) ?_
  refine (unlockW ⟨bm,0,none⟩ _ _ g0 gf0).mono ?_
  rintro e u' w'' ⟨rfl,rfl,rfl⟩
  simp [Leaves,settle,results,Tryz.results69,h0]
  exact (FIN.out _ w2 TR.out).1
/- a core goes on alone -/
set_option maxRecDepth 100000 in
set_option maxHeartbeats 4000000 in
theorem walkAlone_any {V : World} {B bm who : Nat} {vc vk vm vt : Value} {LC : List CV} {LK : List KV} {S : List RS} {d : MD} (n : Int) (hn : n ≤ 4000) (h : MQ0 V B vc vk vm vt LC LK S d) (wk : Wk V bm vc vk vm vt) (bB : B ≤ bm) (hB : B ≤ V.heap.size) (hm : machB d = true) (hw : who < d.cores.length) :
  Calls Tryz.prog 32 #[.pointer (some ⟨bm,0,none⟩),.int .i64 who,.int .i64 n] V fun e w'=>e=.returned (.tuple #[])∧StepR V B bm vc vk vm LC (alM n.toNat d who) w':=by
 obtain ⟨R,hR⟩:∃ R,alM n.toNat d who=R:=⟨_,rfl⟩
 have HR:=hidM1 hR
 have BB:Hid (B≤bm∧B≤V.heap.size):=⟨bB,hB⟩
 have ST:Hid (∃ (D:MD),StepR V B bm vc vk vm LC D V∧machB D=true∧who < D.cores.length∧alM (n.toNat - 0) D who=R):=⟨d,⟨vt,LK,S,h,wk,Below.refl _ _⟩,hm,hw,hR⟩
 rw [hR]
 clear hR h wk bB hB hm hw
 go_enter Tryz.func32,Tryz.ntmps32
 go_wp2_with fail
 go_loopw [7] (fun i wr=>∃ (k:Nat),k≤n.toNat∧i=.int .i64 k∧∃ (D:MD),StepR V B bm vc vk vm LC D wr∧machB D=true∧who < D.cores.length∧alM (n.toNat - k) D who=R) (fun i _=>n.toNat - (intOf i).toNat)
 case atStart=>exact ⟨0,Nat.zero_le _,rfl,ST.out⟩
 case round=>
  clear ST
  obtain ⟨k,hk,rfl,D,st,hm,hw,hr⟩:=hrel
  have SR:=hidM1 st
  have HM:=hidM1 hm
  have HW:=hidM1 hw
  have AR:=hidM1 hr
  clear st hm hw hr
  by_cases hlt:(k:Int) < n
  ·have hkn:k < n.toNat:=by omega
   obtain ⟨m,hmk⟩:∃ m,n.toNat - k=m+1:=⟨n.toNat - k - 1,by omega⟩
   obtain ⟨vt1,LK1,S1,q,wk,kb⟩:=SR.out
   have STEP:=hidM1 (walkStep_any q wk BB.out.1 (Nat.le_trans BB.out.2 kb.size) HM.out HW.out)
   have KB:=hidM1 kb
   have MK:=hidM1 hmk
   clear q wk kb hmk SR
   go_wp2_with fail
   refine STEP.out.mono ?_
   rintro e w1 ⟨rfl,sr⟩
   have SR1:=hidM1 sr
   have OK1:=hidM1 (stepM_ok who 0 HM.out)
   clear sr STEP
   by_cases h0:(stepM D who 0).2=0
   ·have hd:decide ((stepM D who 0).2=0)=true:=decide_eq_true h0
    have HD:Hid (alM m (stepM D who 0).1 who=R):=by
     have q:=AR.out
     rw [MK.out,alM_go h0] at q
     exact q
    have HC:Hid (who < (stepM D who 0).1.cores.length):=by
     have h1:=mach_len OK1.out
     have h2:=(stepM_sz who 0 HM.out).1
     have h3:=mach_len HM.out
     have h4:=HW.out
     show _ < _
     rw [h1,h2,← h3]
     exact h4
    rw [hd]
    clear hd h0 AR
    go_wp2
    go_roundw
    case rel=>
     refine ⟨k+1,by omega,by go_num,_,?_,OK1.out,HC.out,?_⟩
     ·obtain ⟨vt2,LK2,S2,q,wk,k2⟩:=SR1.out
      exact ⟨vt2,LK2,S2,q,wk,KB.out.trans k2⟩
     ·have e:n.toNat - (k+1)=m:=by have:=MK.out;omega
      rw [e]
      exact HD.out
    case measure=>simp [intOf];omega
   ·have hd:decide ((stepM D who 0).2=0)=false:=decide_eq_false h0
    have ED:Hid ((stepM D who 0).1=R):=by
     have q:=AR.out
     rw [alM_no h0] at q
     show _=_
     rw [stepM_ref0 D who 0 h0]
     exact q
    rw [hd]
    clear hd
    go_wp2
    first | go_end0 | (simp only [Exit.inBlock,Exit.then];refine bodyPost_ret (results_none rfl _ _ _) rfl ?_) | refine bodyPost_ret (results_none rfl _ _ _) rfl ?_
    refine ⟨rfl,?_⟩
    rw [← ED.out]
    obtain ⟨vt2,LK2,S2,q,wk,k2⟩:=SR1.out
    exact ⟨vt2,LK2,S2,q,wk,KB.out.trans k2⟩
  ·have e0:n.toNat - k=0:=by omega
   have ER:Hid (D=R):=by
    have q:=AR.out
    rw [e0] at q
    exact q
   go_wp2
   first | go_end0 | (simp only [Exit.inBlock,Exit.then];refine bodyPost_ret (results_none rfl _ _ _) rfl ?_) | refine bodyPost_ret (results_none rfl _ _ _) rfl ?_
   refine ⟨rfl,?_⟩
   rw [← ER.out]
   exact SR.out
/- a walk of a copy -/
theorem Wk.new (w:World) (vc vk vm vt:Value):∃ V,w.alloc (.cells #[.int .i32 0,.int .u32 0,vc,vk,vm,vt,.slice none 0 0,.slice none 0 0,.slice none 0 0,.slice none 0 0,.slice none 0 0,.slice none 0 0,.int .i64 0,.int .i64 0,.int .i64 0,.int .i64 0] 84)=V∧Wk V w.heap.size vc vk vm vt∧Below w.heap.size w V∧w.heap.size < V.heap.size:=by
 refine ⟨_,rfl,⟨by simp [go_sem],by simp [go_sem],by simp [go_sem],by simp [go_sem],by simp [go_sem],fun j hj=>?_,fun j hj=>⟨0,?_⟩,fun j=>by simp [go_sem],⟨_,_,heap_alloc_new _ _⟩⟩,(Below.refl _ _).alloc (Nat.le_refl _) _,by simp⟩
 ·match j,hj with
  | 0,_ | 1,_ | 2,_ | 3,_=>simp [go_sem]
 ·match j,hj with
  | 0,_ | 1,_ | 2,_ | 3,_=>simp [go_sem]
set_option maxHeartbeats 1000000 in
theorem newWalk_any (s1 s2 s3 s4 : Option Addr) (c1 c2 c3 c4 lo hi : Nat) (d : MD) (w : World) (h : MaR w lo hi s1 s2 s3 s4 d) (hB : hi ≤ w.heap.size) (hf : MaSz d ≤ 1048576) :
  Calls Tryz.prog 30 #[.agg #[.slice s1 d.codes.length c1,.slice s2 d.cores.length c2,.slice s3 d.mem.length c3,.slice s4 d.tr.length c4]] w fun e w'=>∃ bm vc vk vm vt LC LK S,e=.returned (.pointer (some ⟨bm,0,none⟩))∧MQ0 w' w.heap.size vc vk vm vt LC LK S d∧Wk w' bm vc vk vm vt∧w.heap.size≤bm∧Below w.heap.size w w':=by
 have H:=hidM1 h
 have HF:=hidM1 hf
 clear h hf
 go_enter Tryz.func30,Tryz.ntmps30
 obtain ⟨W0,hW0,x0,k0,z0⟩:=X4.new w (.slice s1 d.codes.length c1) (.slice s2 d.cores.length c2) (.slice s3 d.mem.length c3) (.slice s4 d.tr.length c4) 38
 have HW0:=hidM1 hW0
 have K0:=hidM1 k0
 have X0:=hidM1 x0
 clear hW0 x0 k0
 go_upto_region 1 with fail
 rw [HW0.out]
 clear HW0
 obtain ⟨⟨xz,c0,c1',c2',c3'⟩,-⟩:=X0.out
 go_wp2_with fail
 refine (sameMachine_any s1 s2 s3 s4 c1 c2 c3 c4 lo hi d W0 (H.out.keep (Keep.of_below K0.out hB)) (by omega) HF.out).mono ?_
 rintro e w2 ⟨vc,vk,vm,vt,LC,LK,S,rfl,q2,hb2,hz2⟩
 obtain ⟨V,hV,wk,kv,zv⟩:=Wk.new w2 vc vk vm vt
 clear xz c0 c1' c2' c3' X0
 have HV:=hidM1 hV
 have WK:=hidM1 wk
 have Q2:=hidM1 (q2.keep (fun b _ h1=>kv.block b h1) kv.size)
 have KK:Hid (Below w.heap.size w V∧w.heap.size≤w2.heap.size):=⟨K0.out.trans ((hb2.mono (by omega)).trans (kv.mono (by omega))),by omega⟩
 clear hV wk q2 hb2 hz2 kv zv K0
 go_wp2
 go_ret
 try rw [HV.out]
 exact ⟨w2.heap.size,vc,vk,vm,vt,LC,LK,S,rfl,Q2.out.low (by omega),WK.out,KK.out.2,KK.out.1⟩
set_option maxRecDepth 100000 in
set_option maxHeartbeats 4000000 in
theorem implAlone_any (s1 s2 s3 s4 : Option Addr) (c1 c2 c3 c4 lo hi : Nat) (d : MD) (who steps : Int) (w : World) (h : MaR w lo hi s1 s2 s3 s4 d) (hB : hi ≤ w.heap.size) (hf : MaSz d ≤ 1048576) :
  Calls Tryz.prog 8 #[.agg #[.slice s1 d.codes.length c1,.slice s2 d.cores.length c2,.slice s3 d.mem.length c3,.slice s4 d.tr.length c4],.int .i64 who,.int .i64 steps] w fun e w'=>∃ p:MP,e=.returned (.agg #[.slice p.s1 (aloneM d who steps).codes.length p.c1,.slice p.s2 (aloneM d who steps).cores.length p.c2,.slice p.s3 (aloneM d who steps).mem.length p.c3,.slice p.s4 (aloneM d who steps).tr.length p.c4])∧MaO w' w.heap.size w'.heap.size p (aloneM d who steps)∧Below w.heap.size w w':=by
 have H:=hidM1 h
 have HF:=hidM1 hf
 obtain ⟨R,hR⟩:∃ R,aloneM d who steps=R:=⟨_,rfl⟩
 have HR:=hidM1 hR
 rw [hR]
 clear h hf hR
 go_enter Tryz.func8,Tryz.ntmps8
 obtain ⟨W0,hW0,x0,k0,z0⟩:=X4.new w (.slice s1 d.codes.length c1) (.slice s2 d.cores.length c2) (.slice s3 d.mem.length c3) (.slice s4 d.tr.length c4) 38
 have s0:W0.heap.size=w.heap.size+1:=by rw [← hW0];simp
 obtain ⟨W,hW,x1,k1,z1⟩:=X4.new W0 (.slice none 0 0) (.slice none 0 0) (.slice none 0 0) (.slice none 0 0) 38
 have HWW:Hid ((w.alloc (.cells #[.slice s1 d.codes.length c1,.slice s2 d.cores.length c2,.slice s3 d.mem.length c3,.slice s4 d.tr.length c4] 38)).alloc (.cells #[.slice none 0 0,.slice none 0 0,.slice none 0 0,.slice none 0 0] 38)=W):=by
  show _=W
  rw [hW0]
  exact hW
 rw [s0] at x1
 have X3:=hidM1 (x0.keep k1 z0)
 have X6:=hidM1 x1
 have KW:=hidM1 (k0.trans (k1.mono (by omega)))
 clear hW0 hW x0 x1 k0 k1 z0 z1 s0
 go_upto_region 1 with fail
 rw [HWW.out]
 clear HWW
 obtain ⟨b6,hb6⟩:∃ b,w.heap.size+1=b:=⟨_,rfl⟩
 obtain ⟨b3,hb3⟩:∃ b,w.heap.size=b:=⟨_,rfl⟩
 have BE:Hid (b3=w.heap.size∧b6=w.heap.size+1):=⟨hb3.symm,hb6.symm⟩
 rw [hb6] at X6 ⊢
 rw [hb3] at X3
 try rw [hb3]
 clear hb6 hb3
 obtain ⟨⟨xz,c0,c1',c2',c3'⟩,-⟩:=X3.out
 go_wp2_with fail
 refine (implMachineOk_any s1 s2 s3 s4 c1 c2 c3 c4 lo hi d W (H.out.keep (Keep.of_below KW.out hB)) (by have:=KW.out.size;omega) (MaFits.of HF.out)).mono ?_
 rintro e w1 ⟨rfl,hb1⟩
 have X31:=hidM1 (X3.out.keep hb1 xz)
 have X61:=hidM1 (X6.out.keep hb1 X6.out.x.z)
 have K1:=hidM1 (KW.out.trans (hb1.mono KW.out.size))
 clear hb1 xz c0 c1' c2' c3' X3 X6 KW
 cases hy:machB d with
 | false=>
  have ER:Hid (R=noMd):=by show _=_;rw [← HR.out];unfold aloneM;rw [if_neg (by rw [hy];decide)]
  obtain ⟨⟨yz,d0,d1,d2,d3⟩,df⟩:=X61.out
  go_wp2
  obtain ⟨Z,hZ,xZ,sZ,fZ,bZ,-⟩:=X61.out.putA (.slice none 0 0) (.slice none 0 0) (.slice none 0 0) (.slice none 0 0)
  obtain ⟨⟨zz,g0,g1,g2,g3⟩,-⟩:=xZ
  rw [ER.out]
  refine bodyPost_ret (v:=.agg #[.slice none 0 0,.slice none 0 0,.slice none 0 0,.slice none 0 0]) ?_ rfl ⟨noMP,rfl,?_,?_⟩
  ·rw [hZ]
   simp [results,Tryz.results8,go_sem,g0,g1,g2,g3]
  ·exact noMa _ _ _
  ·rw [hZ]
   exact bZ _ _ K1.out (by have:=BE.out;omega)
 | true=>
  have HY:=hidM1 hy
  clear hy
  obtain ⟨⟨xz,c0,c1',c2',c3'⟩,-⟩:=X31.out
  go_wp2_with fail
  refine (newWalk_any s1 s2 s3 s4 c1 c2 c3 c4 lo hi d w1 (H.out.keep (Keep.of_below K1.out hB)) (by have:=K1.out.size;omega) HF.out).mono ?_
  rintro e w2 ⟨bm,vc,vk,vm,vt,LC,LK,S,rfl,q,wk,hbm,hb2⟩
  have Q:=hidM1 q
  have WK:=hidM1 wk
  have X32:=hidM1 (X31.out.keep hb2 xz)
  have X62:=hidM1 (X61.out.keep hb2 X61.out.x.z)
  have K2:=hidM1 (K1.out.trans (hb2.mono K1.out.size))
  have ZB:Hid (w.heap.size≤w1.heap.size∧b6 < w1.heap.size∧w1.heap.size≤bm∧w1.heap.size≤w2.heap.size):=⟨K1.out.size,X61.out.x.z,hbm,hb2.size⟩
  clear q wk hbm hb2 xz c0 c1' c2' c3' X31 X61
  obtain ⟨⟨xz,c0,c1',c2',c3'⟩,-⟩:=X32.out
  go_wp2_with fail
  refine (isOneOf_any _ _ _).mono ?_
  rintro e w3 ⟨rfl,hw3⟩
  rw [hw3]
  clear hw3 w3
  obtain ⟨oo,hoo⟩:∃ b,Plain.oneB who (d.cores.length:Int)=b:=⟨_,rfl⟩
  rw [hoo]
  have OO:Hid ((oo=true∧0≤who∧who < (d.cores.length:Int))∨(oo=false∧¬ (0≤who∧who < (d.cores.length:Int)))):=by
   unfold Plain.oneB at hoo
   cases oo with
   | true=>exact .inl ⟨rfl,by simpa using hoo⟩
   | false=>exact .inr ⟨rfl,by simpa using hoo⟩
  clear hoo xz c0 c1' c2' c3'
  refine OO.out.elim (fun h=>?yes) (fun h=>?no)
  case' no=>
   obtain ⟨ho,hn⟩:=h
   subst ho
   have OUT:Hid (StepR w2 w1.heap.size bm vc vk vm LC R w2):=by
    have e:R=d:=by rw [← HR.out];unfold aloneM;rw [if_pos HY.out,if_neg hn]
    show StepR _ _ _ _ _ _ _ _ _
    rw [e]
    exact ⟨vt,LK,S,Q.out,WK.out,Below.refl _ _⟩
   clear hn OO Q WK
   go_upto_region 6 with fail
   generalize hgen:w2=w4 at OUT ⊢
   have X64:Hid (X4 w4 b6 (.slice none 0 0) (.slice none 0 0) (.slice none 0 0) (.slice none 0 0)):=by rw [← hgen];exact X62.out
   have K4:Hid (Below w.heap.size w w4):=by rw [← hgen];exact K2.out
   clear hgen
  case' yes=>
   obtain ⟨ho,h0,h1⟩:=h
   subst ho
   obtain ⟨nw,rfl⟩:∃ n:Nat,who=(n:Int):=⟨who.toNat,by omega⟩
   obtain ⟨mm,hmm⟩:∃ m,(if steps < 4000 then steps else 4000)=m:=⟨_,rfl⟩
   have hm4:mm≤4000:=by rw [← hmm];split<;>omega
   have ER:Hid (alM mm.toNat d nw=R):=by
    show _=_
    rw [← HR.out]
    unfold aloneM stN
    rw [if_pos HY.out,if_pos ⟨h0,h1⟩,hmm]
   have GO:=hidM1 (walkAlone_any (who:=nw) mm hm4 Q.out WK.out ZB.out.2.2.1 (by have:=ZB.out;omega) HY.out (by omega))
   rw [ER.out] at GO
   have MIN:Hid ((steps≤4000∧mm=steps)∨(4000 < steps∧mm=4000)):=by
    by_cases hs:steps < 4000
    ·exact .inl ⟨by omega,by rw [← hmm,if_pos hs]⟩
    ·rw [if_neg hs] at hmm
     by_cases h4:steps=4000
     ·exact .inl ⟨by omega,by omega⟩
     ·exact .inr ⟨by omega,hmm.symm⟩
   clear hm4 hmm h0 h1 OO
   refine MIN.out.elim (fun h=>?y1) (fun h=>?y2)
  case' y1=>
   obtain ⟨hs,he⟩:=h
   subst he
   have hs1:¬ 4000 < mm:=by omega
   go_wp2_with fail
  case' y2=>
   obtain ⟨hs,he⟩:=h
   subst he
   go_wp2_with fail
  case' y1=>
   refine GO.out.mono ?_
   rintro e w4 ⟨rfl,sr⟩
  case' y2=>
   refine GO.out.mono ?_
   rintro e w4 ⟨rfl,sr⟩
  case' y1=>have OUT:=hidM1 sr
  case' y2=>have OUT:=hidM1 sr
  case' y1=>have KB4:Hid (Below w1.heap.size w2 w4):=by (have q:=OUT.out;obtain ⟨-,-,-,-,-,k⟩:=q;exact k)
  case' y2=>have KB4:Hid (Below w1.heap.size w2 w4):=by (have q:=OUT.out;obtain ⟨-,-,-,-,-,k⟩:=q;exact k)
  case' y1=>have X64:=hidM1 (X62.out.keep KB4.out ZB.out.2.1)
  case' y2=>have X64:=hidM1 (X62.out.keep KB4.out ZB.out.2.1)
  case' y1=>have K4:=hidM1 (K2.out.trans (KB4.out.mono ZB.out.1))
  case' y2=>have K4:=hidM1 (K2.out.trans (KB4.out.mono ZB.out.1))
  case' y1=>go_upto_region 6 with fail
  case' y2=>go_upto_region 6 with fail
  all_goals
   obtain ⟨vt',LK',S',q,wk,kb⟩:=OUT.out
   obtain ⟨p,e1,e2,e3,e4,mo,-⟩:=q.mo
   have m0:=wk.m0
   have m1:=wk.m1
   have m2:=wk.m2
   have m3:=wk.m3
   have zm:=wk.bx.lt
   rw [e1] at m0
   rw [e2] at m1
   rw [e3] at m2
   rw [e4] at m3
   have MO:=hidM1 mo
   obtain ⟨⟨yz,d0,d1,d2,d3⟩,df⟩:=X64.out
   have n1:¬ bm=b6:=by have:=ZB.out;omega
   have n2:¬ b6=bm:=by have:=ZB.out;omega
   clear q wk kb e1 e2 e3 e4 mo
   go_wp2
   obtain ⟨Z,hZ,xZ,sZ,fZ,bZ,-⟩:=X64.out.putA (.slice p.s1 R.codes.length p.c1) (.slice p.s2 R.cores.length p.c2) (.slice p.s3 R.mem.length p.c3) (.slice p.s4 R.tr.length p.c4)
   obtain ⟨⟨zz,g0,g1,g2,g3⟩,-⟩:=xZ
   refine bodyPost_ret (v:=.agg #[.slice p.s1 R.codes.length p.c1,.slice p.s2 R.cores.length p.c2,.slice p.s3 R.mem.length p.c3,.slice p.s4 R.tr.length p.c4]) ?_ rfl ⟨p,rfl,?_,?_⟩
   ·rw [hZ]
    simp [results,Tryz.results8,go_sem,g0,g1,g2,g3]
   ·rw [hZ]
    exact (MO.out.keep (fun k h3 h4=>fZ k (by have:=ZB.out;omega))).mono (by have:=ZB.out;omega) (by omega)
   ·rw [hZ]
    exact bZ _ _ K4.out (by have:=BE.out;omega)
end Go.Proofs.YtlbeploopclegaaGreat
