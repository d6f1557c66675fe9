/- The law FnBetween of the given statements: a drawn core is between two places just if it runs and stands at a first step. No condition. -/
import Derived.Test.YtkhjhibigldcgaaGreatBG00
import Derived.Test.YtkhjhibigldcgaaGreatBG01
import Derived.Test.YtkhjhibigldcgaaGreatBG05
import Derived.Test.YtkhjhibigldcgaaGreatBG12
import Derived.Test.YtkhjhibigldcgaaGreatBG10
import Derived.Test.YtkhjhibigldcgaaGreatBG26
import Derived.Test.YtkhjhibigldcgaaGreatBG13
import Derived.Test.YtkhjhibigldcgaaGreatRows
import Derived.Test.YtkhjhibigldcgaaGreatBB13Be
import Derived.Test.YtkhjhibigldcgaaGreatBG23
import Derived.Test.YtkhjhibigldcgaaGreatBG14
import Derived.Deep.RegionHeld3
import Derived.ProofKit
import Derived.OpenShut
import Derived.ShutString
import Derived.ChangeOld
import Derived.ChangeSlices
namespace Go.Proofs.YtkhjhibigldcgaaGreat
set_option linter.unusedSimpArgs false
set_option linter.unusedVariables false
set_option maxRecDepth 100000
open Go.ChangeShapes Go.WideShapes Go.ChangeAt Go.RowKit Go.Deep
structure Eb (w:World) (bP bM:Nat) (s0 s1:Option Addr) (c0 c1:Nat) (P:PD) (q:MP) (D:MD) (X:World):Prop where
 x:P2 X bP (.slice s0 P.caps.length c0) (.slice s1 P.bods.length c1)
 y:X4 X bM (.slice q.s1 D.codes.length q.c1) (.slice q.s2 D.cores.length q.c2) (.slice q.s3 D.mem.length q.c3) (.slice q.s4 D.tr.length q.c4)
 pr:ProgR X 0 X.heap.size s0 s1 P
 ma:MaR X 0 X.heap.size q.s1 q.s2 q.s3 q.s4 D
 K:Below w.heap.size w X
theorem progUp {X Y:World} {lo hi:Nat} {s0 s1:Option Addr} {P:PD} (h:ProgR X lo hi s0 s1 P) (hB:hi≤X.heap.size) (k:Below X.heap.size X Y):ProgR Y 0 Y.heap.size s0 s1 P:=by
 have a:=ProgR.keep' h (Keep.of_below k hB)
 have z:=k.size
 exact ⟨a.1.mono (Nat.zero_le _) (by omega),BodsR.mono a.2 (Nat.zero_le _) (by omega)⟩
theorem maUp {X Y:World} {lo hi:Nat} {q:MP} {D:MD} (h:MaR X lo hi q.s1 q.s2 q.s3 q.s4 D) (hB:hi≤X.heap.size) (k:Below X.heap.size X Y):MaR Y 0 Y.heap.size q.s1 q.s2 q.s3 q.s4 D:=
 MaR.mono (h.keep (Keep.of_below k hB)) (Nat.zero_le _) (by have:=k.size;omega)
theorem Eb.keep {w X Y:World} {bP bM c0 c1:Nat} {s0 s1:Option Addr} {P:PD} {q:MP} {D:MD} (h:Eb w bP bM s0 s1 c0 c1 P q D X) (k:Below X.heap.size X Y):Eb w bP bM s0 s1 c0 c1 P q D Y:=
 ⟨h.x.but (But.of_below (g:=bP+1) k) (by omega),h.y.keep k h.y.x.z,progUp h.pr (Nat.le_refl _) k,maUp h.ma (Nat.le_refl _) k,h.K.trans (k.mono h.K.size)⟩
set_option maxRecDepth 100000 in
set_option maxHeartbeats 16000000 in
theorem walkFnBetween (s : Option Addr) (n c : Nat) (w : World) (hb : Bytes w w.heap.size s n) (hn : n ≤ maxLen) :
  Calls Tryz.prog 3 #[.slice s n c] w fun e w'=>e=.returned (.bool true)∧Below w.heap.size w w':=by
 by_cases hbig:1048576 < n
 ·clear hb
  go_enter Tryz.func3,Tryz.ntmps3
  go_wp2_with fail
  refine (big_any s n c w).mono ?_
  rintro e w1 ⟨rfl,hw⟩
  have hw':=hw.symm
  clear hw
  subst hw'
  rw [decide_eq_true hbig]
  go_wp2
  go_ret
  exact ⟨rfl,Below.refl _ _⟩
 have HB:=hidM1 hb
 have HN:=hidM1 hn
 have BG:=hidM1 hbig
 clear hb hn hbig
 go_enter Tryz.func3,Tryz.ntmps3
 go_wp2_with fail
 refine (big_any s n c w).mono ?_
 rintro e w1 ⟨rfl,hw⟩
 have hw':=hw.symm
 clear hw
 subst hw'
 rw [decide_eq_false BG.out]
 go_wp2_with fail
 refine (drawBt_any s n c w HB.out HN.out).mono ?_
 rintro e w1 ⟨s0,s1,c0,c1,P,q,D,who,rfl,hP,hM,hf,hpb,hz,hb1⟩
 have FP:=hidM1 hf
 have MZ:=hidM1 hz
 obtain ⟨A,hA,xA,kA,zA⟩:=P2.new w1 (.slice s0 P.caps.length c0) (.slice s1 P.bods.length c1) 27
 obtain ⟨U,hU,xU,kU,zU⟩:=X4.new A (.slice q.s1 D.codes.length q.c1) (.slice q.s2 D.cores.length q.c2) (.slice q.s3 D.mem.length q.c3) (.slice q.s4 D.tr.length q.c4) 35
 have E:Hid (Eb w w1.heap.size (w1.heap.size+1) s0 s1 c0 c1 P q D U):=by
  have k2:Below w1.heap.size w1 U:=kA.trans (kU.mono (by omega))
  rw [zA] at xU
  exact ⟨xA.but (But.of_below (g:=w1.heap.size+7) kU) (by omega),xU,progUp hP (Nat.le_refl _) k2,maUp hM (Nat.le_refl _) k2,hb1.trans (k2.mono hb1.size)⟩
 have HU:Hid (((w1.alloc (.cells #[.slice s0 P.caps.length c0,.slice s1 P.bods.length c1] 27)).alloc (.cells #[.slice q.s1 D.codes.length q.c1,.slice q.s2 D.cores.length q.c2,.slice q.s3 D.mem.length q.c3,.slice q.s4 D.tr.length q.c4] 35))=U):=by show _=_;rw [hA,hU]
 clear hP hM hf hpb hz hb1 hA xA kA zA hU xU kU zU HB HN
 go_upto_region 4 with fail
 try rw [HU.out]
 clear HU
 obtain ⟨b,hbb⟩:∃ z,w1.heap.size=z:=⟨_,rfl⟩
 rw [hbb] at E ⊢
 clear hbb
 obtain ⟨x0,x1,-,-⟩:=E.out.x
 obtain ⟨⟨yz,y0,y1,y2,y3⟩,-⟩:=E.out.y
 have hkl:D.cores.length≤40000:=by have:=MZ.out;unfold MaSz at this;omega
 have KL:=hidM1 hkl
 clear hkl
 go_wp2_with fail
 refine (implBet_any s0 s1 q.s1 q.s2 q.s3 q.s4 c0 c1 q.c1 q.c2 q.c3 q.c4 0 U.heap.size 0 U.heap.size P D who U E.out.pr E.out.ma.2.1 (Nat.le_refl _) (Nat.le_refl _) FP.out (by have:=KL.out;omega)).mono ?_
 rintro e w2 ⟨rfl,hb2⟩
 have E2:=hidM1 (E.out.keep hb2)
 clear hb2 x0 x1 yz y0 y1 y2 y3 E
 obtain ⟨x0,x1,-,-⟩:=E2.out.x
 obtain ⟨⟨yz,y0,y1,y2,y3⟩,-⟩:=E2.out.y
 go_wp2_with fail
 refine (specBet_any s0 s1 q.s1 q.s2 q.s3 q.s4 c0 c1 q.c1 q.c2 q.c3 q.c4 0 w2.heap.size 0 w2.heap.size P D who w2 E2.out.pr E2.out.ma.2.1 (Nat.le_refl _) (Nat.le_refl _) FP.out (by have:=KL.out;omega)).mono ?_
 rintro e w3 ⟨rfl,hb3⟩
 have E3:=hidM1 (E2.out.keep hb3)
 clear hb3 x0 x1 yz y0 y1 y2 y3 E2
 obtain ⟨x0,x1,-,-⟩:=E3.out.x
 obtain ⟨⟨yz,y0,y1,y2,y3⟩,-⟩:=E3.out.y
 have hne:(betV P D who !=betV P D who)=false:=by simp
 by_cases hw:0≤who∧who < (D.cores.length:Int)
 ·obtain ⟨k,rfl⟩:=Int.eq_ofNat_of_zero_le hw.1
  have hkl:k < D.cores.length:=by omega
  obtain ⟨kd,hkd⟩:∃ kd,D.cores[k]? =some kd:=⟨_,List.getElem?_eq_getElem hkl⟩
  have hbv:=betV_at (p:=P) hkd
  obtain ⟨g,o,t1,e1,t2,e2,es,g1,g2,f0,f1,f2,f3,-,-⟩:=E3.out.ma.2.1.at hkd
  obtain ⟨bv,hbv2⟩:∃ bv,betV P D (k:Int)=bv:=⟨_,rfl⟩
  rw [hbv2] at hbv hne ⊢
  obtain ⟨pv,hpv⟩:∃ pv,(placeV (bodV P (k:Int)) kd.pc).1=pv:=⟨_,rfl⟩
  obtain ⟨pb,hpb⟩:∃ pb,(placeV (bodV P (k:Int)) kd.pc).2=pb:=⟨_,rfl⟩
  rw [hpb] at hbv
  rw [es] at y1
  have b0:(0:Int)≤(k:Int):=by omega
  have b1:(k:Int) < (D.cores.length:Int):=by omega
  have hn0:((k:Int) < 0)=False:=eq_false (by omega)
  have hn1:((D.cores.length:Int)≤(k:Int))=False:=eq_false (by omega)
  have hn2:(D.cores.length≤k)=False:=eq_false (by omega)
  have PL:Hid (∀ X:Ext w3,Calls Tryz.prog 8 #[.agg #[.slice s0 P.caps.length c0,.slice s1 P.bods.length c1],.int .i64 k,.int .i64 kd.pc] X.w fun e w'=>e=.returned (.tuple #[.int .i64 pv,.bool pb])∧Below X.w.heap.size X.w w'):=fun X=>by
   have h:=implPlace_any s0 s1 c0 c1 0 X.w.heap.size P k kd.pc X.w (E3.out.keep X.b).pr (Nat.le_refl _) FP.out
   rw [hpv,hpb] at h
   exact h
  have ES:=hidM1 es
  have KD:=hidM1 hkd
  have HV:=hidM1 hbv
  clear es hkd hbv hbv2 hpv hpb hw hkl f1 f2 MZ g1
  go_wp2_with fail
  have hne:=ext_ne w3
  have zx:=E3.out.x.z
  have ux0:=Ext.fit x0 zx
  have ux1:=Ext.fit x1 zx
  have uy1:=Ext.fit y1 yz
  have uf0:=Ext.fit f0 g2
  clear f0 f3 x0 x1 y0 y1 y2 y3 yz zx
  refine regionExt w3 (by kernel_rfl) (by kernel_rfl) ?_
  repeat (go_big_quiet_step (first | (rename_i X;go_at_call 8;refine Calls.mono (PL.out X) ?_;rintro e w9 ⟨rfl,hb9⟩;exact ⟨rfl,X.on hb9⟩) | fail))
  refine wpQuiet_nil ?_
  rintro w5 ⟨X5,rfl⟩
  obtain ⟨Z,hZ⟩:∃ Z,X5.w=Z:=⟨_,rfl⟩
  have hb5:=X5.b
  rw [hZ] at hb5 ⊢
  have E5:=hidM1 (E3.out.keep hb5)
  clear hZ X5 hb5 hne ux0 ux1 uy1 uf0 PL E3
  obtain ⟨⟨yz,y0,y1,y2,y3⟩,-⟩:=E5.out.y
  obtain ⟨g',o',t1,e1,t2,e2,es,g1,g2,f0,f1,f2,f3,-,-⟩:=E5.out.ma.2.1.at KD.out
  have eg:g'=g∧o'=o:=by
   have h:=ES.out
   rw [es] at h
   injection h with h
   injection h with h1 h2
   exact ⟨h1,h2⟩
  obtain ⟨rfl,rfl⟩:=eg
  rw [es] at y1
  obtain ⟨st,hst⟩:∃ st,kd.st=st:=⟨_,rfl⟩
  rw [hst] at f3
  have HV':Hid (bv=if st=0 then pb else false):=by show _=_;rw [← hst];exact HV.out
  clear hst HV f0 f1 f2 y0 y2 y3 es g1 ES KD
  by_cases h0:st=0
  ·have hbv:=HV'.out
   rw [if_pos h0] at hbv
   subst hbv
   subst h0
   clear HV'
   cases bv
   ·go_wp2
    go_ret
    exact ⟨rfl,E5.out.K⟩
   ·go_wp2
    go_ret
    exact ⟨rfl,E5.out.K⟩
  ·have hbv:=HV'.out
   rw [if_neg h0] at hbv
   subst hbv
   have h00:(st==0)=false:=by simpa using h0
   clear HV'
   cases pb
   ·go_wp2
    go_ret
    exact ⟨rfl,E5.out.K⟩
   ·go_wp2
    go_ret
    exact ⟨rfl,E5.out.K⟩
 ·have hbv:=betV_none (p:=P) hw
  rw [hbv] at hne ⊢
  by_cases h0:who < 0
  ·clear hw hbv
   go_wp2
   go_ret
   exact ⟨rfl,E3.out.K⟩
  ·have h1:(D.cores.length:Int)≤who:=by omega
   clear hw hbv
   go_wp2
   go_ret
   exact ⟨rfl,E3.out.K⟩
set_option maxRecDepth 100000 in
theorem liftedFnBetween (os : Os) (started : os.Started) (H : Type) (enc : TypeId × Value → H) :
  ReturnsInHanded {} Tryz.checked os 3 .any (Rows.fnBetweenSpec.pre6 enc Tryz.prog Tryz.f3 Rows.fnBetweenRow.domain false) (Rows.fnBetweenSpec.post enc Tryz.prog Tryz.f3 false true false false):=by
 refine returnsInHanded_of_change (C:=Tryz.checked) ownS started (by kernel_rfl) Tryz.func3
  (ChangeSpec.witness6 (enc:=enc) (C:=Tryz.checked) false ⟨#[],#[.slice none 0 0],[]⟩ 8 (by kernel_rfl) (by kernel_rfl) (by kernel_rfl) (by kernel_rfl)) ?_
 intro W base args ds gs before hval0 hW hcnd _
 have hval:∀ (j:Nat) t v,Tryz.f3.params[j]? =some t→args[j]? =some v→Value.okWide Tryz.prog W .any base t v:=hval0
 have hW':=hW
 obtain ⟨p,q,hA0,hV,rfl,hfz,hnd⟩:=hW
 have hA:DataW.TrodAll enc Tryz.prog W 0 (fun _=>true) true Tryz.f3.params.toList args.toList ds p:=hA0
 rw [Tryz.params3] at hA hval
 obtain ⟨v0,d0,hargs,rfl,h0⟩:=trodAll_one hA
 obtain rfl:args=#[v0]:=by cases args;simp_all
 obtain ⟨rfl,rfl⟩:=trodVars_none hV
 have k0:=h0
 have lt0:∀ x∈p,x.block < W.heap.size:=by obtain ⟨m,hm⟩:=k0;exact DataW.trod_lt m _ _ _ hm
 obtain ⟨s,n,c,rfl,hn,hB⟩:=bytes_read (hval 0 22 v0 rfl rfl) h0
 clear hA0 hval0
 refine (walkFnBetween s n c W hB hn).mono fun e W' ⟨he,bel⟩=>?_
 subst he
 exact ⟨_,rfl,_,_,_,[],_,[],hW',trodAll_mk1 (shut_bool Tryz.underlying4 _),trodAll_mk1 (Below.trod laidOutS (by kernel_rfl) (of_decide_eq_true (by kernel_rfl)) k0 bel lt0),rfl,bel.frame _,fun h=>by cases h⟩
theorem fnBetween_holds:Rows.FnBetweenSaid:=
 OpenClaim.holds_of_wide 3 Tryz.f3 rfl rfl rfl rfl rfl rfl rfl ⟨rfl,rfl,rfl,rfl,rfl⟩ rfl rfl rfl rfl rfl (by kernel_rfl) Tryz.func3 (by kernel_rfl)
  (of_decide_eq_true (by kernel_rfl)) (by unfold Func.isWrapper;first | (rw [if_pos (by decide+kernel)];kernel_rfl) | (rw [if_neg (by decide+kernel)];exact ⟨rfl,rfl⟩))
  (fun os started H enc _=>liftedFnBetween os started H enc)
#print axioms fnBetween_holds
end Go.Proofs.YtkhjhibigldcgaaGreat
