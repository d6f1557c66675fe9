/- MachineOk of the specification. Conditions: the machine is counted. -/
import Derived.Test.YtkhjhibigldcgaaGreatBG01
import Derived.Test.YtkhjhibigldcgaaGreatBG00
import Derived.Test.YtkhjhibigldcgaaGreatBG07
import Derived.Test.YtkhjhibigldcgaaGreatBG08
import Derived.Test.YtkhjhibigldcgaaGreatBG10
import Derived.Test.YtkhjhibigldcgaaGreatBG04
import Derived.Test.YtkhjhibigldcgaaGreatBG09
import Derived.Test.YtkhjhibigldcgaaGreatBG12
namespace Go.Proofs.YtkhjhibigldcgaaGreat
set_option linter.unusedSimpArgs false
set_option linter.unusedVariables false
set_option maxRecDepth 100000
open Go.RowKit
theorem one_in (p:Int) (n:Nat):Plain.inB p 0 ((n:Int) - 1)=Plain.oneB p n:=by
 rw [Bool.eq_iff_iff]
 simp [Plain.inB,Plain.oneB]
 omega
set_option maxHeartbeats 4000000 in
theorem specMachineOk_any (s1 s2 s3 s4 : Option Addr) (c1 c2 c3 c4 lo hi : Nat) (d : MD) (w : World) (h : MaR w lo hi s1 s2 s3 s4 d) (hB : hi ≤ w.heap.size) (hf : MaFits d) :
  Calls Tryz.prog 33 #[.agg #[.slice s1 d.codes.length c1,.slice s2 d.cores.length c2,.slice s3 d.mem.length c3,.slice s4 d.tr.length c4]] w fun e w'=>e=.returned (.bool (machB d))∧Below w.heap.size w w':=by
 have H:Hid (MaR w lo hi s1 s2 s3 s4 d):=h
 have F1:d.codes.length+szC d.codes≤1048576:=hf.c
 have F2:d.cores.length+szK d.cores≤1048576:=by have:=hf.k;omega
 have F3:d.mem.length+szR d.mem≤2000000:=hf.m
 have F4:d.tr.length≤2000000:=hf.t
 have HVC:Hid (∀ (i:Nat) (x:List I5),d.codes[i]? =some x→x.length≤1048576):=fun i x hx=>by have:=szC_at d.codes i x hx;omega
 have HVK:Hid (∀ (i:Nat) (x:KD),d.cores[i]? =some x→x.regs.length+x.vw.length≤1048576):=fun i x hx=>by have:=szK_at d.cores i x hx;omega
 have HVM:Hid (∀ (i:Nat) (r:List WD),d.mem[i]? =some r→r.length≤2000000):=fun i r hr=>by have:=szR_at d.mem i r hr;omega
 clear h hf
 cases hn:Plain.inB (d.codes.length:Int) 1 4
 ·have E:Hid (machB d=false):=by
   have q:¬ (1≤d.codes.length∧d.codes.length≤4):=by simp [Plain.inB] at hn;omega
   show _=_;unfold machB codesB;rw [decide_eq_false q];rfl
  go_enter Tryz.func33,Tryz.ntmps33
  go_wp2_with (go_at_call 13;refine (l1In_is _ _ _ _ _ hn).mono ?_;rintro e w' ⟨rfl,rfl⟩)
  go_ret
  exact ⟨ret_bool' E.out.symm,(Below.refl _ _).alloc (Nat.le_refl _) _⟩
 have HN:Hid (1≤d.codes.length∧d.codes.length≤4):=by simp [Plain.inB] at hn;show _∧_;omega
 by_cases hk:d.cores.length=d.codes.length
 case neg=>
  have E:Hid (machB d=false):=by show _=_;unfold machB coresB;rw [decide_eq_false hk];simp
  have hne:((d.cores.length:Int) !=(d.codes.length:Int))=true:=by simp;omega
  go_enter Tryz.func33,Tryz.ntmps33
  go_wp2_with (go_at_call 13;refine (l1In_is _ _ _ _ _ hn).mono ?_;rintro e w' ⟨rfl,rfl⟩)
  go_ret
  exact ⟨ret_bool' E.out.symm,(Below.refl _ _).alloc (Nat.le_refl _) _⟩
 have HKN:Hid (d.cores.length=d.codes.length):=hk
 have hne:((d.cores.length:Int) !=(d.codes.length:Int))=false:=by simp;omega
 clear hk
 go_enter Tryz.func33,Tryz.ntmps33
 go_wp2_with (go_at_call 13;refine (l1In_is _ _ _ _ _ hn).mono ?_;rintro e w' ⟨rfl,hw⟩;have hw':=hw.symm;clear hw;subst hw')
 obtain ⟨W,hW,bx,kb,zb⟩:=B4.new w (.slice s1 d.codes.length c1) (.slice s2 d.cores.length c2) (.slice s3 d.mem.length c3) (.slice s4 d.tr.length c4) 35
 rw [hW]
 clear hW hn
 have A0:Hid (B4 W w.heap.size (.slice s1 d.codes.length c1) (.slice s2 d.cores.length c2) (.slice s3 d.mem.length c3) (.slice s4 d.tr.length c4)):=bx
 have K0:Hid (Below w.heap.size w W):=kb
 clear bx kb
 refine (specMemoryOk_any s3 c3 lo hi d.mem W (H.out.keep (Keep.of_below K0.out hB)).2.2.1 (by omega) F3).mono ?_
 rintro e w1 ⟨rfl,hb1⟩
 have A1:Hid (B4 w1 w.heap.size (.slice s1 d.codes.length c1) (.slice s2 d.cores.length c2) (.slice s3 d.mem.length c3) (.slice s4 d.tr.length c4)):=A0.out.keep (hb1.mono (Nat.le_refl _)) A0.out.z
 have K1:Hid (Below w.heap.size w w1):=K0.out.trans (hb1.mono (by omega))
 obtain ⟨p0,p1,p2,p3,p4⟩:=A1.out
 clear hb1
 cases hm:memB d.mem
 ·have E:Hid (machB d=false):=by show _=_;unfold machB;rw [hm];simp
  clear hm
  go_wp2
  go_ret
  exact ⟨ret_bool' E.out.symm,K1.out⟩
 have HM:Hid (memB d.mem=true):=hm
 clear hm
 by_cases ht:d.tr.length≤4000
 case neg=>
  have E:Hid (machB d=false):=by show _=_;unfold machB trB;rw [decide_eq_false ht];simp
  have htt:(d.tr.length:Int) > 4000:=by omega
  go_wp2
  go_ret
  exact ⟨ret_bool' E.out.symm,K1.out⟩
 have htt:¬ (d.tr.length:Int) > 4000:=by omega
 have E0:Hid (machB d=(d.codes.all codeB&&((d.cores.zip d.codes).all (fun (x:KD×List I5)=>coreB d.mem x.1 x.2.length)&&d.tr.all (fun (t:ND)=>Plain.oneB t.who d.cores.length)))):=by
  show _=_
  unfold machB codesB coresB trB
  rw [decide_eq_true HN.out,decide_eq_true HKN.out,decide_eq_true ht,HM.out]
  simp
 have R1:Hid (MaR w1 lo hi s1 s2 s3 s4 d):=H.out.keep (Keep.of_below K1.out hB)
 have z1:hi≤w1.heap.size:=by have:=K1.out.size;omega
 clear A0 K0 zb
 go_wp2
 go_loopw [4] (fun i wr=>∃ k:Nat,k≤d.codes.length∧i=.int .i64 k∧Hid ((d.codes.take k).all codeB=true)∧Hid (((d.cores.zip d.codes).take k).all (fun (x:KD×List I5)=>coreB d.mem x.1 x.2.length)=true)∧Below w1.heap.size w1 wr) (fun i _=>d.codes.length - (intOf i).toNat)
 case atStart=>exact ⟨0,Nat.zero_le _,rfl,show _=_ by simp,show _=_ by simp,Below.refl _ _⟩
 case round=>
  obtain ⟨k,hk,rfl,HJ1,HJ2,hbw⟩:=hrel
  have HBW:Hid (Below w1.heap.size w1 wr):=hbw
  have A2:Hid (B4 wr w.heap.size (.slice s1 d.codes.length c1) (.slice s2 d.cores.length c2) (.slice s3 d.mem.length c3) (.slice s4 d.tr.length c4)):=A1.out.keep hbw p0
  have z2:=hbw.size
  clear p1 p2 p3 p4
  obtain ⟨r0,r1,r2,r3,r4⟩:=A2.out
  have R2:Hid (MaR wr lo hi s1 s2 s3 s4 d):=R1.out.keep (Keep.of_below hbw z1)
  clear hbw
  by_cases hlt:k < d.codes.length
  ·obtain ⟨x,hx⟩:∃ x,d.cores[k]? =some x:=⟨_,List.getElem?_eq_getElem (by have:=HKN.out;omega)⟩
   obtain ⟨y,hy⟩:∃ y,d.codes[k]? =some y:=⟨_,List.getElem?_eq_getElem hlt⟩
   have hz:(d.cores.zip d.codes)[k]? =some (x,y):=by rw [List.getElem?_zip_eq_some];exact ⟨hx,hy⟩
   obtain ⟨g,o,t1,e1,t2,e2,es,q1,q2,f0,f1,f2,f3,-,q6⟩:=R2.out.2.1.at hx
   obtain ⟨g',o',t3,e3,es',q1',q2',f4,q5⟩:=R2.out.1.at hy
   subst es es'
   have hv:=HVK.out k x hx
   have hc:=HVC.out k y hy
   have HTC:Hid ((d.codes.take (k+1)).all codeB=((d.codes.take k).all codeB&&codeB y)):=all_take hy
   have HFC:Hid (codeB y=false→d.codes.all codeB=false):=fun h=>all_no hy h
   have HTK:Hid (((d.cores.zip d.codes).take (k+1)).all (fun (x:KD×List I5)=>coreB d.mem x.1 x.2.length)=(((d.cores.zip d.codes).take k).all (fun (x:KD×List I5)=>coreB d.mem x.1 x.2.length)&&coreB d.mem x y.length)):=all_take (p:=(fun (x:KD×List I5)=>coreB d.mem x.1 x.2.length)) hz
   have HFK:Hid (coreB d.mem x y.length=false→(d.cores.zip d.codes).all (fun (x:KD×List I5)=>coreB d.mem x.1 x.2.length)=false):=fun h=>all_no (p:=(fun (x:KD×List I5)=>coreB d.mem x.1 x.2.length)) hz h
   obtain ⟨pc,rg,vw,st⟩:=x
   simp only at f0 f1 f2 f3 hv q6
   have Q5:Hid (InsR wr lo hi t3 y):=q5
   have Q6:Hid (IntsR wr lo hi t2 vw):=q6
   clear q5 q6 hx hy hz
   have b0:(0:Int)≤(k:Int):=by omega
   have b1:(k:Int) < (d.codes.length:Int):=by omega
   have b2:(k:Int) < (d.cores.length:Int):=by have:=HKN.out;omega
   have zg:g < wr.heap.size:=by omega
   have zg':g' < wr.heap.size:=by omega
   go_wp2_with fail
   obtain ⟨U,hU,bu,ku,zu⟩:=B4.new wr (.int .i64 pc) (.slice t1 rg.length e1) (.slice t2 vw.length e2) (.int .i64 st) 42
   rw [hU]
   clear hU
   obtain ⟨v0,v1,v2,v3,v4⟩:=bu
   have y1:=(ku.cell (p:=⟨w.heap.size,0,none⟩) r0).trans r1
   have y3:=(ku.cell (p:=⟨w.heap.size,2,none⟩) r0).trans r3
   have y4:=(ku.cell (p:=⟨g',o'+k,none⟩) zg').trans f4
   have zr:w.heap.size < U.heap.size:=by omega
   have zg2:g' < U.heap.size:=by omega
   have KU:Hid (Below wr.heap.size wr U):=ku
   have P5:Hid (∀ X:Ext U,InsB X.w X.w.heap.size t3 y):=fun X=>((Q5.out.keep (Keep.of_below ku (by omega))).keep (Keep.of_below X.b (by omega))).insB.mono (by have:=X.b.size;omega)
   have P6:Hid (∀ X:Ext U,IntsR X.w lo hi t2 vw):=fun X=>(Q6.out.keep (Keep.of_below ku (by omega))).keep (Keep.of_below X.b (by omega))
   have P7:Hid (∀ X:Ext U,MemR X.w lo hi s3 d.mem):=fun X=>(R2.out.2.2.1.keep (Keep.of_below ku (by omega))).keep (Keep.of_below X.b (by omega))
   have P8:Hid (∀ X:Ext U,hi≤X.w.heap.size):=fun X=>by have:=X.b.size;omega
   clear ku
   have hne:=ext_ne U
   have u0:=Ext.fit v1 zu
   have u1:=Ext.fit v2 zu
   have u2:=Ext.fit v3 zu
   have u3:=Ext.fit v4 zu
   have u4:=Ext.fit y1 zr
   have u5:=Ext.fit y3 zr
   have u6:=Ext.fit y4 zg2
   cases hc0:codeB y
   ·have HC:Hid (codeB y=false):=hc0
    clear hc0
    have F:Hid (machB d=false):=by show _=_;rw [E0.out,HFC.out HC.out];simp
    refine regionExt U (by kernel_rfl) (by kernel_rfl) ?_
    repeat (go_big_quiet_step (first | (rename_i X;go_at_call 45;refine (specCode_any t3 e3 X.w.heap.size y X.w (P5.out X) (Nat.le_refl _) hc).mono ?_;rintro e w3 ⟨rfl,hb3⟩;rw [HC.out];exact ⟨rfl,X.on hb3⟩)))
    refine wpQuiet_nil ?_
    rintro w3 ⟨X3,rfl⟩
    have HB1:Hid (Below w1.heap.size w1 X3.w):=(HBW.out.trans (KU.out.mono (by omega))).trans (X3.b.mono (by omega))
    clear u0 u1 u2 u3 u4 u5 u6 hne v1 v2 v3 v4 y1 y3 y4 f0 f1 f2 f3 f4
    go_wp2
    go_ret
    exact ⟨ret_bool' F.out.symm,K1.out.trans (HB1.out.mono (by omega))⟩
   have HC:Hid (codeB y=true):=hc0
   clear hc0
   by_cases h8:rg.length=8
   case neg=>
    have e8:((rg.length:Int) !=8)=true:=by simp;omega
    have H8:Hid (¬ rg.length=8):=h8
    clear h8
    have F:Hid (machB d=false):=by show _=_;rw [E0.out,HFK.out (by unfold coreB;simp only;rw [decide_eq_false H8.out];rfl)];simp
    refine regionExt U (by kernel_rfl) (by kernel_rfl) ?_
    repeat (go_big_quiet_step (first | (rename_i X;go_at_call 45;refine (specCode_any t3 e3 X.w.heap.size y X.w (P5.out X) (Nat.le_refl _) hc).mono ?_;rintro e w3 ⟨rfl,hb3⟩;rw [HC.out];exact ⟨rfl,X.on hb3⟩)))
    refine wpQuiet_nil ?_
    rintro w3 ⟨X3,rfl⟩
    have HB1:Hid (Below w1.heap.size w1 X3.w):=(HBW.out.trans (KU.out.mono (by omega))).trans (X3.b.mono (by omega))
    clear u0 u1 u2 u3 u4 u5 u6 hne v1 v2 v3 v4 y1 y3 y4 f0 f1 f2 f3 f4
    go_wp2
    go_ret
    exact ⟨ret_bool' F.out.symm,K1.out.trans (HB1.out.mono (by omega))⟩
   have e8:((rg.length:Int) !=8)=false:=by simp;omega
   have H8:Hid (rg.length=8):=h8
   clear h8
   cases hp:Plain.inB pc 0 ((y.length:Int) - 1)
   ·have HP:Hid (Plain.inB pc 0 ((y.length:Int) - 1)=false):=hp
    clear hp
    have F:Hid (machB d=false):=by show _=_;rw [E0.out,HFK.out (by have q:=HP.out;rw [one_in] at q;unfold coreB;simp only;rw [q];simp)];simp
    refine regionExt U (by kernel_rfl) (by kernel_rfl) ?_
    repeat (go_big_quiet_step (first | (rename_i X;go_at_call 45;refine (specCode_any t3 e3 X.w.heap.size y X.w (P5.out X) (Nat.le_refl _) hc).mono ?_;rintro e w3 ⟨rfl,hb3⟩;rw [HC.out];exact ⟨rfl,X.on hb3⟩) | (rename_i X;go_at_call 13;with_reducible refine (l1In_is pc 0 ((y.length:Int) - 1) _ _ HP.out).mono ?_;rintro e w3 ⟨rfl,hw3⟩;subst w3;exact ⟨rfl,X.on (Below.refl _ _)⟩)))
    refine wpQuiet_nil ?_
    rintro w3 ⟨X3,rfl⟩
    have HB1:Hid (Below w1.heap.size w1 X3.w):=(HBW.out.trans (KU.out.mono (by omega))).trans (X3.b.mono (by omega))
    clear u0 u1 u2 u3 u4 u5 u6 hne v1 v2 v3 v4 y1 y3 y4 f0 f1 f2 f3 f4
    go_wp2
    go_ret
    exact ⟨ret_bool' F.out.symm,K1.out.trans (HB1.out.mono (by omega))⟩
   have HP:Hid (Plain.inB pc 0 ((y.length:Int) - 1)=true):=hp
   clear hp
   cases hs:Plain.inB st 0 2
   ·have HS:Hid (Plain.inB st 0 2=false):=hs
    clear hs
    have F:Hid (machB d=false):=by show _=_;rw [E0.out,HFK.out (by unfold coreB;simp only;rw [HS.out];simp)];simp
    refine regionExt U (by kernel_rfl) (by kernel_rfl) ?_
    repeat (go_big_quiet_step (first | (rename_i X;go_at_call 45;refine (specCode_any t3 e3 X.w.heap.size y X.w (P5.out X) (Nat.le_refl _) hc).mono ?_;rintro e w3 ⟨rfl,hb3⟩;rw [HC.out];exact ⟨rfl,X.on hb3⟩) | (rename_i X;go_at_call 13;with_reducible refine (l1In_is pc 0 ((y.length:Int) - 1) _ _ HP.out).mono ?_;rintro e w3 ⟨rfl,hw3⟩;subst w3;exact ⟨rfl,X.on (Below.refl _ _)⟩) | (rename_i X;go_at_call 13;with_reducible refine (l1In_is st 0 2 _ _ HS.out).mono ?_;rintro e w3 ⟨rfl,hw3⟩;subst w3;exact ⟨rfl,X.on (Below.refl _ _)⟩)))
    refine wpQuiet_nil ?_
    rintro w3 ⟨X3,rfl⟩
    have HB1:Hid (Below w1.heap.size w1 X3.w):=(HBW.out.trans (KU.out.mono (by omega))).trans (X3.b.mono (by omega))
    clear u0 u1 u2 u3 u4 u5 u6 hne v1 v2 v3 v4 y1 y3 y4 f0 f1 f2 f3 f4
    go_wp2
    go_ret
    exact ⟨ret_bool' F.out.symm,K1.out.trans (HB1.out.mono (by omega))⟩
   have HS:Hid (Plain.inB st 0 2=true):=hs
   clear hs
   cases hw:viewB d.mem vw
   ·have HW:Hid (viewB d.mem vw=false):=hw
    clear hw
    have F:Hid (machB d=false):=by show _=_;rw [E0.out,HFK.out (by unfold coreB;simp only;rw [HW.out];simp)];simp
    refine regionExt U (by kernel_rfl) (by kernel_rfl) ?_
    repeat (go_big_quiet_step (first | (rename_i X;go_at_call 45;refine (specCode_any t3 e3 X.w.heap.size y X.w (P5.out X) (Nat.le_refl _) hc).mono ?_;rintro e w3 ⟨rfl,hb3⟩;rw [HC.out];exact ⟨rfl,X.on hb3⟩) | (rename_i X;go_at_call 13;with_reducible refine (l1In_is pc 0 ((y.length:Int) - 1) _ _ HP.out).mono ?_;rintro e w3 ⟨rfl,hw3⟩;subst w3;exact ⟨rfl,X.on (Below.refl _ _)⟩) | (rename_i X;go_at_call 13;with_reducible refine (l1In_is st 0 2 _ _ HS.out).mono ?_;rintro e w3 ⟨rfl,hw3⟩;subst w3;exact ⟨rfl,X.on (Below.refl _ _)⟩) | (rename_i X;go_at_call 46;refine (specViewOk_any s3 t2 c3 e2 lo hi lo hi d.mem vw X.w (P7.out X) (P6.out X) (P8.out X) (P8.out X) (by omega) HVM.out).mono ?_;rintro e w3 ⟨rfl,hb3⟩;rw [HW.out];exact ⟨rfl,X.on hb3⟩)))
    refine wpQuiet_nil ?_
    rintro w3 ⟨X3,rfl⟩
    have HB1:Hid (Below w1.heap.size w1 X3.w):=(HBW.out.trans (KU.out.mono (by omega))).trans (X3.b.mono (by omega))
    clear u0 u1 u2 u3 u4 u5 u6 hne v1 v2 v3 v4 y1 y3 y4 f0 f1 f2 f3 f4
    go_wp2
    go_ret
    exact ⟨ret_bool' F.out.symm,K1.out.trans (HB1.out.mono (by omega))⟩
   have HW:Hid (viewB d.mem vw=true):=hw
   clear hw
   refine regionExt U (by kernel_rfl) (by kernel_rfl) ?_
   repeat (go_big_quiet_step (first | (rename_i X;go_at_call 45;refine (specCode_any t3 e3 X.w.heap.size y X.w (P5.out X) (Nat.le_refl _) hc).mono ?_;rintro e w3 ⟨rfl,hb3⟩;rw [HC.out];exact ⟨rfl,X.on hb3⟩) | (rename_i X;go_at_call 13;with_reducible refine (l1In_is pc 0 ((y.length:Int) - 1) _ _ HP.out).mono ?_;rintro e w3 ⟨rfl,hw3⟩;subst w3;exact ⟨rfl,X.on (Below.refl _ _)⟩) | (rename_i X;go_at_call 13;with_reducible refine (l1In_is st 0 2 _ _ HS.out).mono ?_;rintro e w3 ⟨rfl,hw3⟩;subst w3;exact ⟨rfl,X.on (Below.refl _ _)⟩) | (rename_i X;go_at_call 46;refine (specViewOk_any s3 t2 c3 e2 lo hi lo hi d.mem vw X.w (P7.out X) (P6.out X) (P8.out X) (P8.out X) (by omega) HVM.out).mono ?_;rintro e w3 ⟨rfl,hb3⟩;rw [HW.out];exact ⟨rfl,X.on hb3⟩)))
   refine wpQuiet_nil ?_
   rintro w3 ⟨X3,rfl⟩
   have HB1:Hid (Below w1.heap.size w1 X3.w):=(HBW.out.trans (KU.out.mono (by omega))).trans (X3.b.mono (by omega))
   clear u0 u1 u2 u3 u4 u5 u6 hne v1 v2 v3 v4 y1 y3 y4 f0 f1 f2 f3 f4
   go_wp2
   go_roundw
   case rel=>
    refine ⟨k+1,by omega,by go_num,show _=_ by rw [HTC.out,HJ1.out,HC.out];rfl,?_,HB1.out⟩
    show _=_
    rw [HTK.out,HJ2.out]
    have q:=HP.out
    rw [one_in] at q
    unfold coreB
    simp only
    rw [decide_eq_true H8.out,HS.out,q,HW.out]
    rfl
   case measure=>simp [intOf];omega
  ·have J1:Hid (d.codes.all codeB=true):=by have q:=HJ1.out;rw [List.take_of_length_le (by omega)] at q;exact q
   have J2:Hid ((d.cores.zip d.codes).all (fun (x:KD×List I5)=>coreB d.mem x.1 x.2.length)=true):=by have q:=HJ2.out;rw [List.take_of_length_le (by simp;omega)] at q;exact q
   have E1:Hid (machB d=d.tr.all (fun (t:ND)=>Plain.oneB t.who d.cores.length)):=by show _=_;rw [E0.out,J1.out,J2.out];rfl
   clear HJ1 HJ2 J1 J2
   go_wp2
   rename World=>wo
   go_loopw [6] (fun i wr=>∃ j:Nat,j≤d.tr.length∧i=.int .i64 j∧Hid ((d.tr.take j).all (fun (t:ND)=>Plain.oneB t.who d.cores.length)=true)∧Below wo.heap.size wo wr) (fun i _=>d.tr.length - (intOf i).toNat)
   case atStart=>exact ⟨0,Nat.zero_le _,rfl,show _=_ by simp,Below.refl _ _⟩
   case round=>
    obtain ⟨j,hj,rfl,HJ3,hbo⟩:=hrel
    have HBO:Hid (Below wo.heap.size wo wr):=hbo
    have A3:=A2.out.keep hbo r0
    have R3:=R2.out.2.2.2.keep (Keep.of_below hbo (show hi≤wo.heap.size by omega))
    have zz:=hbo.size
    clear hbo r1 r2 r3 r4
    obtain ⟨m0,m1,m2,m3,m4⟩:=A3
    by_cases hjt:j < d.tr.length
    ·obtain ⟨t,ht⟩:∃ t,d.tr[j]? =some t:=⟨_,List.getElem?_eq_getElem hjt⟩
     obtain ⟨g,o,hs,g1,g2,f0,f1⟩:∃ g o,s4=some ⟨g,o,none⟩∧lo≤g∧g < hi∧NtR wr g (o+j * 2) t:=by
      rcases R3 with h | ⟨g,o,a,b,c,e⟩
      ·rw [h] at hjt;simp at hjt
      ·exact ⟨g,o,a,b,c,e j t ht⟩
     subst hs
     have HT:Hid ((d.tr.take (j+1)).all (fun (t:ND)=>Plain.oneB t.who d.cores.length)=((d.tr.take j).all (fun (t:ND)=>Plain.oneB t.who d.cores.length)&&Plain.oneB t.who d.cores.length)):=all_take (p:=(fun (t:ND)=>Plain.oneB t.who d.cores.length)) ht
     have HF:Hid (Plain.oneB t.who d.cores.length=false→d.tr.all (fun (t:ND)=>Plain.oneB t.who d.cores.length)=false):=fun h=>all_no (p:=(fun (t:ND)=>Plain.oneB t.who d.cores.length)) ht h
     obtain ⟨ta,tb⟩:=t
     simp only at f0 f1 HT HF
     clear ht
     have b0:(0:Int)≤(j:Int):=by omega
     have b1:(j:Int) < (d.tr.length:Int):=by omega
     have zg:g < wr.heap.size:=by omega
     obtain ⟨bv,hv⟩:∃ b,Plain.inB ta 0 ((d.codes.length:Int) - 1)=b:=⟨_,rfl⟩
     have HQ:Hid (Plain.oneB ta d.cores.length=bv):=by show _=_;rw [HKN.out,← one_in];exact hv
     have HV:Hid (Plain.inB ta 0 ((d.codes.length:Int) - 1)=bv):=hv
     clear hv
     cases bv
     ·go_wp2_with (go_at_call 13;refine (l1In_is _ _ _ _ _ HV.out).mono ?_;rintro e w' ⟨rfl,hw⟩;have hw':=hw.symm;clear hw;subst hw')
      go_ret
      exact ⟨ret_bool' (by rw [E1.out,HF.out HQ.out]),K1.out.trans ((HBW.out.trans (HBO.out.mono (by omega))).mono (by omega))⟩
     ·go_wp2_with (go_at_call 13;refine (l1In_is _ _ _ _ _ HV.out).mono ?_;rintro e w' ⟨rfl,hw⟩;have hw':=hw.symm;clear hw;subst hw')
      go_roundw
      case rel=>exact ⟨j+1,by omega,by go_num,show _=_ by rw [HT.out,HJ3.out,HQ.out];rfl,HBO.out⟩
      case measure=>simp [intOf];omega
    ·go_wp2
     go_ret
     have:j=d.tr.length:=by omega
     subst this
     have q:=HJ3.out
     rw [List.take_length] at q
     exact ⟨ret_bool' (by rw [E1.out,q]),K1.out.trans ((HBW.out.trans (HBO.out.mono (by omega))).mono (by omega))⟩
end Go.Proofs.YtkhjhibigldcgaaGreat
