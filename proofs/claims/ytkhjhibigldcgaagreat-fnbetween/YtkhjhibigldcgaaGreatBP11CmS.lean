/- Compile of the specification. Conditions: programs that fit. -/
import Derived.Test.YtkhjhibigldcgaaGreatBG00
import Derived.Test.YtkhjhibigldcgaaGreatBG17
import Derived.Test.YtkhjhibigldcgaaGreatBProgOk
import Derived.Test.YtkhjhibigldcgaaGreatBG01
import Derived.Test.YtkhjhibigldcgaaGreatBG05
import Derived.Test.YtkhjhibigldcgaaGreatBG16
import Derived.Test.YtkhjhibigldcgaaGreatBG04
import Derived.Test.YtkhjhibigldcgaaGreatBG06
import Derived.Test.YtkhjhibigldcgaaGreatBG07
import Derived.Test.YtkhjhibigldcgaaGreatBG10
import Derived.Test.YtkhjhibigldcgaaGreatBG12
import Derived.Test.YtkhjhibigldcgaaGreatBG20
import Derived.Test.YtkhjhibigldcgaaGreatBG22
namespace Go.Proofs.YtkhjhibigldcgaaGreat
set_option linter.unusedSimpArgs false
set_option linter.unusedVariables false
set_option maxRecDepth 100000
open Go.RowKit
theorem own6_empty {w:World} {base:Nat} (hb:base≤w.heap.size):OwnB6 (w.alloc (.cells #[] 66)) base (.slice (some ⟨w.heap.size,0,none⟩) 0 0) []:=
 ⟨[],World.ownsRow_lit w #[] 0 hb (by unfold maxLen;omega) rfl,fun i hi=>absurd hi (Nat.not_lt_zero _),fun i j k hi=>absurd hi (Nat.not_lt_zero _)⟩
theorem own5_empty {w:World} {base:Nat} (hb:base≤w.heap.size):OwnT5 (w.alloc (.cells #[] 65)) base (.slice (some ⟨w.heap.size,0,none⟩) 0 0) []:=own5_new [] #[] rfl hb (Nat.zero_le _)
theorem specEmit_n (o r a x n fr : Int) (ss sk : Option Addr) (sc kc lo hi lo' hi' : Nat) (caps starts : List Int) (m : Nat) (hm : starts.length = m) (w : World) (hcp : IntsR w lo hi sk caps) (hhi : hi ≤ w.heap.size) (hcl : caps.length ≤ 2000000) (hst : IntsR w lo' hi' ss starts) (hhi' : hi' ≤ w.heap.size) :
  Calls Tryz.prog 56 #[.slice sk caps.length kc,.agg #[.int .i64 o,.int .i64 r,.int .i64 a,.int .i64 x,.int .i64 n],.int .i64 fr,.slice ss m sc] w fun e w'=>∃ v,e=.returned v∧OwnT5 w' w.heap.size v (emitM caps starts o r a x n fr)∧Below w.heap.size w w':=by
 subst hm
 exact specEmit_any o r a x n fr ss sk sc kc lo hi lo' hi' caps starts w hcp hhi hcl hst hhi'
theorem stB_body {p:PD} (h:progB p=true) {k:Nat} (hk:k < p.bods.length):stB p (k:Int)=stL (p.bods.getD k []) (p.bods.getD k []).length:=by
 unfold stB
 rw [bodV_yes h (by omega) (by omega)]
 rfl
theorem own5_insB {w:World} {base:Nat} {s:Option Addr} {c:Nat} {l:List I5} (h:OwnT5 w base (.slice s l.length c) l):InsB w w.heap.size s l:=(SB5.of h).insB
set_option maxRecDepth 100000 in
set_option maxHeartbeats 8000000 in
theorem specCompile_any (s s' : Option Addr) (c c' lo hi : Nat) (p : PD) (w : World) (h : ProgR w lo hi s s' p) (hB : hi ≤ w.heap.size) (hf : Fits p) :
  Calls Tryz.prog 41 #[.agg #[.slice s p.caps.length c,.slice s' p.bods.length c']] w fun e w'=>∃ v,e=.returned (.tuple #[v,.bool (cpM p).2])∧OwnB6 w' w.heap.size v (cpM p).1∧Below w.heap.size w w':=by
 have HP:=hidP h
 have HF:=hidP hf
 have hfn:=hf.2.1
 clear h hf
 obtain ⟨W,hW,bx,kb,zb⟩:=Bo2.new w (.slice s p.caps.length c) (.slice s' p.bods.length c') 27
 have HBX:=hidP bx
 have KW0:=hidP kb
 have hzW:w.heap.size+1≤W.heap.size:=by omega
 clear zb
 obtain ⟨x0,x1⟩:=bx
 clear kb
 obtain ⟨V,hV⟩:∃ V,W.alloc (.cells #[] 66)=V:=⟨_,rfl⟩
 have HOV:Hid (OwnB6 V (w.heap.size+1) (.slice (some ⟨W.heap.size,0,none⟩) 0 0) []):=hV▸own6_empty hzW
 have KV:Hid (Below (w.heap.size+1) W V):=hV▸(Below.refl _ _).alloc hzW _
 have hzV:W.heap.size≤V.heap.size:=by rw [← hV];simp
 have y0:=(KV.out.cell (p:=⟨w.heap.size,0,none⟩) (Nat.lt_succ_self _)).trans x0
 have y1:=(KV.out.cell (p:=⟨w.heap.size,1,none⟩) (Nat.lt_succ_self _)).trans x1
 have KWV:=hidP (KW0.out.trans (KV.out.mono (Nat.le_succ _)))
 have HV:=hidP hV
 go_enter Tryz.func41,Tryz.ntmps41
 go_wp2_with fail
 refine (specProg_any s s' c c' lo hi p V (ProgR.keep' HP.out (Keep.of_below KWV.out hB)) (by omega) HF.out).mono ?_
 rintro e w1 ⟨rfl,hb1⟩
 have hz1:=hb1.size
 have K1W:Hid (Below (w.heap.size+1) W w1):=KV.out.trans (hb1.mono (by omega))
 have K1:=hidP (KW0.out.trans (K1W.out.mono (Nat.le_succ _)))
 have HO1:=hidP (HOV.out.below hb1)
 clear x0 x1 y0 y1 hb1
 obtain ⟨x0,x1⟩:=HBX.out.keep (Keep.of_below K1W.out (Nat.le_refl _))
 cases hp:progB p
 ·have EC:=hidP (cpM_none hp)
  clear hp
  go_wp2
  refine bodyPost_ret (v:=.tuple #[.slice (some ⟨W.heap.size,0,none⟩) 0 0,.bool false]) (by simp [results,Tryz.results41,go_sem]) rfl ?_
  exact ⟨_,by rw [EC.out],by rw [EC.out];exact HO1.out.low (Nat.le_succ _),K1.out⟩
 ·have HPB:=hidP hp
  have HRC:=hidP (right_ok hp)
  have hpl:=progB_len hp
  clear hp
  have hc3:=hpl.2.2.1
  have hb4:=hpl.2.1
  clear hpl
  go_wp2_with (go_at_call 54;refine (l9Right_any s c lo hi p.caps w1 ((ProgR.keep' HP.out (Keep.of_below K1.out hB)).1) (by omega) (by omega)).mono ?_;rintro e w2 ⟨rfl,hb2⟩;rw [HRC.out];have x0':=(hb2.cell (p:=⟨w.heap.size,0,none⟩) (show w.heap.size < w1.heap.size by omega)).trans x0;have x1':=(hb2.cell (p:=⟨w.heap.size,1,none⟩) (show w.heap.size < w1.heap.size by omega)).trans x1)
  have K2W:=hidP (K1W.out.trans (hb2.mono (by omega)))
  have HO2:=hidP (HO1.out.below hb2)
  have hz2:=hb2.size
  clear hb2 x0 x1 x0' x1'
  go_loopw [5,6] (fun v i wr=>∃ k:Nat,k≤p.bods.length∧i=.int .i64 k∧(∃ sv cv,v=.slice sv k cv∧OwnB6 wr (w.heap.size+1) (.slice sv k cv) (cdL p k))∧Below (w.heap.size+1) W wr∧(∀ i,i < k→codeB (cdAt p i)=true)) (fun _ i _=>p.bods.length - (intOf i).toNat)
  case atStart=>exact ⟨0,Nat.zero_le _,rfl,⟨_,_,rfl,HO2.out⟩,K2W.out,fun i hi=>absurd hi (Nat.not_lt_zero _)⟩
  case round=>
   obtain ⟨wo,hwo⟩:∃ wo:World,wo=wr:=⟨_,rfl⟩
   subst hwo
   obtain ⟨k,hk,rfl,⟨sv,cv,rfl,ho⟩,hbW,hok⟩:=hrel
   have HO:=hidP ho
   have HBW:=hidP hbW
   have HOK:=hidP hok
   have hzr:=hbW.size
   have HB:=hidP (KW0.out.trans (hbW.mono (Nat.le_succ _)))
   obtain ⟨x0,x1⟩:=HBX.out.keep (Keep.of_below hbW (Nat.le_refl _))
   clear ho hbW hok
   by_cases hlt:k < p.bods.length
   ·have hki:(k:Int) < (p.bods.length:Int):=by omega
    go_wp2_with fail
    refine (specStarts_any s s' c c' lo hi p (k:Int) wo (ProgR.keep' HP.out (Keep.of_below HB.out hB)) (by omega) HF.out).mono ?_
    rintro e w3 ⟨v3,rfl,ho3,hb3⟩
    rw [stB_body HPB.out hlt] at ho3
    obtain ⟨gb,offb,hs2,hgb,s1,c1,hcell,hin⟩:=bods_at ((ProgR.keep' HP.out (Keep.of_below HB.out hB)).2) (i:=k) hlt
    subst hs2
    obtain ⟨hrt,hl1⟩:=progB_body HPB.out (i:=k) hlt
    have hem:=hidP (fun (kk:Nat) (hkk:kk < (p.bods.getD k []).length)=>em_pos HPB.out (b:=k) hlt hkk (stV (p.bods.getD k []) kk))
    have ECD:=hidP (show cdAt p k=cdM p.caps (p.bods.getD k []) (p.bods.getD k []).length from rfl)
    obtain ⟨l,hl⟩:∃ l,p.bods.getD k []=l:=⟨_,rfl⟩
    rw [hl] at hcell hin hrt hl1 hem ECD ho3
    clear hl
    have hl24:=hrt.len
    obtain ⟨gs,cps,e3,hgs1,hgs2⟩:=World.ownsRow.form ho3 (by rw [stL_len];omega)
    rw [stL_len] at e3
    subst e3
    have hos:OwnN w3 wo.heap.size (.slice (some ⟨gs,0,none⟩) (stL l l.length).length cps) (stL l l.length):=by rw [stL_len];exact ho3
    have HS:=hidP (ownN_intsR hos)
    have HSC:=hidP (show ∀ i,i < l.length→w3.cell? ⟨gs,i,none⟩=some (.int .i64 (stV l i)) from fun i hi=>by
     have:=hos.cell (i:=i) (by rw [stL_len];exact hi)
     rw [stL_at l hi] at this
     exact this)
    have hz3:=hb3.size
    have K3:=hidP (HB.out.trans (hb3.mono (by omega)))
    have K3W:=hidP (HBW.out.trans (hb3.mono (by omega)))
    have HIN:=hidP hin
    have HCE:=hidP ((hb3.cell (p:=⟨gb,offb+k,none⟩) (show gb < wo.heap.size by omega)).trans hcell)
    have HX3:=hidP (HBX.out.keep (Keep.of_below K3W.out (Nat.le_refl _)))
    have HIN3:=hidP (hin.keep (Keep.of_below hb3 (by omega)))
    have HO3:=hidP (HO.out.below hb3)
    have HCP3:=hidP ((ProgR.keep' HP.out (Keep.of_below K3.out hB)).1)
    obtain ⟨x0',x1'⟩:=HX3.out
    have hbs:w.heap.size+1≤w3.heap.size:=by omega
    have hhs:hi≤w3.heap.size:=by omega
    have hgb3:gb < w3.heap.size:=by omega
    clear ho3 hos hb3 hin hcell hrt x0 x1 HIN
    go_wp2
    go_loopw [8,9] (fun v i wz=>∃ j:Nat,j≤l.length∧i=.int .i64 j∧OwnT5 wz w3.heap.size v (cdM p.caps l j)∧Below w3.heap.size w3 wz) (fun _ i _=>l.length - (intOf i).toNat)
    case atStart=>exact ⟨0,Nat.zero_le _,rfl,own5_empty (Nat.le_refl _),(Below.refl _ _).alloc (Nat.le_refl _) _⟩
    case round=>
     obtain ⟨j,hj,rfl,ho,hb⟩:=hrel
     have HO5:=hidP ho
     have HBq:=hidP hb
     have hzq:=hb.size
     have x0:=(hb.cell (p:=⟨w.heap.size,0,none⟩) (show w.heap.size < w3.heap.size by omega)).trans x0'
     have x1:=(hb.cell (p:=⟨w.heap.size,1,none⟩) (show w.heap.size < w3.heap.size by omega)).trans x1'
     have x2:=(hb.cell (p:=⟨gb,offb+k,none⟩) hgb3).trans HCE.out
     clear ho hb
     by_cases hlj:j < l.length
     ·obtain ⟨gl,off,hs',hlo,hgl,hc⟩:=insR_at HIN3.out hlj
      subst hs'
      have HA5:=hidP (hc j hlj)
      clear hc
      have hp1:=hem.out j hlj
      have HS5:=hidP (HSC.out j hlj)
      have EC:=hidP (show cdM p.caps l (j+1)=cdM p.caps l j++emX p.caps (stL l l.length) (l.getD j z5) (stV l j) from rfl)
      generalize l.getD j z5=x at HA5 hp1 EC
      obtain ⟨xo,xr,xa,xb,xn⟩:=x
      obtain ⟨st,hst⟩:∃ st,stV l j=st:=⟨_,rfl⟩
      rw [hst] at HS5 hp1 EC
      clear hst
      obtain ⟨L,hL⟩:∃ L,emX p.caps (stL l l.length) ⟨xo,xr,xa,xb,xn⟩ st=L:=⟨_,rfl⟩
      have HL:=hidP (show emitM p.caps (stL l l.length) xo xr xa xb xn st=L from hL)
      have hLn:L.length≤40:=by rw [← HL.out];exact emitM_len _ _ _ _ _ _ _ _
      have hcn:=cdM_len p.caps l j
      rw [hL] at hp1 EC
      clear hL
      have hws:w.heap.size < w3.heap.size:=by omega
      have hgl3:gl < w3.heap.size:=by omega
      have hhq:hi≤wr.heap.size:=by omega
      have hc20:p.caps.length≤2000000:=by omega
      have side4:(cdM p.caps l j).length+L.length≤1000:=by omega
      have HCPq:=hidP (HCP3.out.keep (Keep.of_below HBq.out hhs))
      have HSq:=hidP (HS.out.keep (Keep.of_below HBq.out (Nat.le_refl _)))
      have b0:(0:Int)≤(j:Int):=by omega
      have b1:(j:Int) < (l.length:Int):=by omega
      have b2:(0:Int)≤(k:Int):=by omega
      obtain ⟨f0,f1,f2,f3,f4⟩:=HA5.out.keep HBq.out hgl3
      have f5:=(HBq.out.cell (p:=⟨gs,j,none⟩) hgs2).trans HS5.out
      go_wp2_with fail
      go_region_held3 (fun w''=>w''.cell? ⟨w.heap.size,0,none⟩=some (.slice s p.caps.length c)∧w''.cell? ⟨w.heap.size,1,none⟩=some (.slice (some ⟨gb,offb,none⟩) p.bods.length c')∧w''.cell? ⟨gb,offb+k,none⟩=some (.slice (some ⟨gl,off,none⟩) l.length c1)∧w''.cell? ⟨gl,off+j * 5,none⟩=some (.int .i64 xo)∧w''.cell? ⟨gl,off+j * 5+1,none⟩=some (.int .i64 xr)∧w''.cell? ⟨gl,off+j * 5+2,none⟩=some (.int .i64 xa)∧w''.cell? ⟨gl,off+j * 5+3,none⟩=some (.int .i64 xb)∧w''.cell? ⟨gl,off+j * 5+4,none⟩=some (.int .i64 xn)∧w''.cell? ⟨gs,j,none⟩=some (.int .i64 st)) (go_keep) (first | (go_at_call 56;refine (specEmit_n xo xr xa xb xn st (some ⟨gs,0,none⟩) s cps c lo hi wo.heap.size w3.heap.size p.caps (stL l l.length) l.length (stL_len l _) wr.drew (show IntsR wr.drew lo hi s p.caps from HCPq.out) hhq hc20 (show IntsR wr.drew wo.heap.size w3.heap.size (some ⟨gs,0,none⟩) (stL l l.length) from HSq.out) hzq).mono ?_;rintro e y1 ⟨v1,rfl,hv1,hbu⟩;rw [HL.out] at hv1;have kbu:Below wr.heap.size wr y1:=⟨hbu.os,hbu.tape,hbu.output,hbu.size,hbu.block⟩;have hzu:=kbu.size;obtain ⟨q2,c2,e2,hq2a,hq2b⟩:=World.ownsRow.form hv1 hp1;subst e2;have HV1:=hidP hv1;have HOU:=hidP (HO5.out.keep kbu);have KBU:=hidP (HBq.out.trans (kbu.mono hzq));clear x0 x1 x2 f0 f1 f2 f3 f4 f5 hv1 hbu kbu;have x0:=(KBU.out.cell (p:=⟨w.heap.size,0,none⟩) hws).trans HX3.out.c0;have x1:=(KBU.out.cell (p:=⟨w.heap.size,1,none⟩) hws).trans HX3.out.c1;have x2:=(KBU.out.cell (p:=⟨gb,offb+k,none⟩) hgb3).trans HCE.out;obtain ⟨f0,f1,f2,f3,f4⟩:=HA5.out.keep KBU.out hgl3;have f5:=(KBU.out.cell (p:=⟨gs,j,none⟩) hgs2).trans HS5.out) | (refine step5 rfl _ _ rfl y1 w3.heap.size u8 (cdM p.caps l j) rfl HOU.out _ q2 L.length c2 L rfl HV1.out rfl hp1 side4 _ rfl (Nat.le_trans hzq hzu) ?_;intro g7 c7 w7 ho7 hb7;have HO7:=hidP ho7;have KB7:=hidP (KBU.out.trans hb7);clear x0 x1 x2 f0 f1 f2 f3 f4 f5 ho7 hb7;have x0:=(KB7.out.cell (p:=⟨w.heap.size,0,none⟩) hws).trans HX3.out.c0;have x1:=(KB7.out.cell (p:=⟨w.heap.size,1,none⟩) hws).trans HX3.out.c1;have x2:=(KB7.out.cell (p:=⟨gb,offb+k,none⟩) hgb3).trans HCE.out;obtain ⟨f0,f1,f2,f3,f4⟩:=HA5.out.keep KB7.out hgl3;have f5:=(KB7.out.cell (p:=⟨gs,j,none⟩) hgs2).trans HS5.out) | fail)
      clear x0 x1 x2 f0 f1 f2 f3 f4 f5
      go_wp2
      go_roundw
      case rel=>exact ⟨j+1,by omega,by go_num,by rw [EC.out];exact HO7.out,KB7.out⟩
      case measure=>simp [intOf];omega
     ·have hjn:j=l.length:=by omega
      subst hjn
      rw [← ECD.out] at HO5
      obtain ⟨sL,cL,eL⟩:=own5_sl HO5.out
      subst eL
      have hcn:=cdM_len p.caps l l.length
      rw [← ECD.out] at hcn
      have hn1:(cdAt p k).length≤1048576:=by omega
      have HIB:=hidP (own5_insB HO5.out)
      have b2:(0:Int)≤(k:Int):=by omega
      have b3:¬ ((l.length:Int) < (l.length:Int)):=by omega
      cases hcb:codeB (cdAt p k)
      ·have HCB:=hidP hcb
       have EC:=hidP (cpM_no (p:=p) (k:=k) hlt hcb)
       clear hcb
       go_wp2_with (go_at_call 45;refine (specCode_any sL cL wr.heap.size (cdAt p k) wr HIB.out (Nat.le_refl _) hn1).mono ?_;rintro e w8 ⟨rfl,hb8⟩;rw [HCB.out])
       have hz8:=hb8.size
       refine bodyPost_ret (v:=.tuple #[.slice (some ⟨w8.heap.size,0,none⟩) 0 0,.bool false]) (by simp [results,Tryz.results41,go_sem]) rfl ?_
       exact ⟨_,by rw [EC.out],by rw [EC.out];exact own6_empty (by omega),(K3.out.trans ((HBq.out.trans (hb8.mono hzq)).mono (by omega))).alloc (by omega) _⟩
      ·have HCB:=hidP hcb
       clear hcb
       obtain ⟨xs,r1,r2,r3⟩:=HO3.out
       rw [cdL_len] at r1 r2 r3
       have HR1:=hidP r1
       have HVB:=hidP (show ∀ kk,(Value.slice sv k cv).ownBlock=some kk→w.heap.size+1≤kk∧kk < w3.heap.size from fun kk e=>World.ownsRow.lt r1 _ e)
       have HR23:=hidP (And.intro r2 r3)
       have side5:k≤1000:=by omega
       clear r1 r2 r3
       go_wp2_with (first | (go_at_call 45;refine (specCode_any sL cL wr.heap.size (cdAt p k) wr HIB.out (Nat.le_refl _) hn1).mono ?_;rintro e w8 ⟨rfl,hb8⟩;rw [HCB.out];have hz8:=hb8.size;have HB8:=hidP hb8;have K8:=hidP (HBq.out.trans (hb8.mono hzq));clear hb8) | (at_builtin;refine app6 rfl _ _ rfl (w8.alloc (.cells #[.slice sL (cdAt p k).length cL] 66)) (w.heap.size+1) (.slice sv k cv) xs k rfl (ownKeep HR1.out (fun kk e=>(Below.heap_alloc _ _ _ (Nat.lt_of_lt_of_le (HVB.out kk e).2 (Nat.le_trans hzq hz8))).trans (K8.out.block kk (HVB.out kk e).2))) w8.heap.size 1 (.slice sL (cdAt p k).length cL) rfl rfl (by simp [go_sem]) side5 (by simp;omega) ?_;intro g9 c9 w9 ho9 hg9 ha9 hlt9) | go_in)
       have HK9:=hidP (fun kk (h1:kk < w8.heap.size) (h2:(Value.slice sv k cv).ownBlock≠some kk)=>(hg9.block kk (by simp;omega) (fun e=>h2 e.symm)).trans (Below.heap_alloc w8 (.cells #[.slice sL (cdAt p k).length cL] 66) kk h1))
       have hw9:w8.heap.size+1≤w9.heap.size:=by have:=hg9.size;simpa using this
       have OB:OwnB6 w9 (w.heap.size+1) (.slice (some ⟨g9,0,none⟩) (k+1) c9) (cdL p (k+1)):=by
        have hlk:=cdL_len p k
        have:=OwnB6.grow (w:=w3) (w':=w9) (base:=w.heap.size+1) (g:=g9) (cap:=c9) (v:=.slice sv k cv) (u:=.slice sL (cdAt p k).length cL) (bs:=cdL p k) (xs:=xs) (b:=cdAt p k) (by rw [hlk];exact HR1.out) (by rw [hlk];exact HR23.out.1) (by rw [hlk];exact HR23.out.2) (own_hu HO5.out) (by rw [hlk];exact ho9) (fun kk h1 h2 h3=>(HK9.out kk (by omega) h3).trans (K8.out.block kk h2)) (own5_six (ownKeep (ownLow (HO5.out.keep HB8.out) (by omega)) (fun kk e=>HK9.out kk (Nat.lt_of_lt_of_le (World.ownsRow.lt HO5.out _ e).2 hz8) (fun e2=>absurd (HVB.out _ e2).2 (by have:=(World.ownsRow.lt HO5.out _ e).1;omega)))))
        rw [hlk] at this
        rw [cdL_succ]
        exact this
       have HB9:Below (w.heap.size+1) W w9:=⟨hg9.os.trans (K8.out.os.trans K3W.out.os),hg9.tape.trans (K8.out.tape.trans K3W.out.tape),hg9.output.trans (K8.out.output.trans K3W.out.output),by have:=K3W.out.size;omega,fun kk hk2=>(HK9.out kk (by omega) (fun e=>absurd (HVB.out _ e).1 (by omega))).trans ((K8.out.block kk (by omega)).trans (K3W.out.block kk hk2))⟩
       exact ⟨⟨k+1,by omega,by go_num,⟨_,_,rfl,OB⟩,HB9,ok_step HOK.out HCB.out⟩,by simp [intOf];omega⟩
   ·have hkn:k=p.bods.length:=by omega
    subst hkn
    have EC:=hidP (cpM_yes HPB.out HOK.out)
    go_wp2
    refine bodyPost_ret (v:=.tuple #[.slice sv p.bods.length cv,.bool true]) (by simp [results,Tryz.results41,go_sem]) rfl ?_
    exact ⟨_,by rw [EC.out],by rw [EC.out];exact HO.out.low (Nat.le_succ _),HB.out⟩
end Go.Proofs.YtkhjhibigldcgaaGreat
