/- ChanIn of the specification. Conditions: what comes in is counted. -/
import Derived.Test.YtkhjhibigldcgaaLG00
import Derived.Test.YtkhjhibigldcgaaLG04
import Derived.Test.YtkhjhibigldcgaaLG03
import Derived.Test.YtkhjhibigldcgaaLG02
import Derived.Test.YtkhjhibigldcgaaLG06
import Derived.Test.YtkhjhibigldcgaaLG01
import Derived.Test.YtkhjhibigldcgaaLG24
import Derived.Deep.RegionHeld3
import Derived.Deep.DeepCutAuto
namespace Go.Proofs.Ytkhjhibigldcgaa
set_option linter.unusedSimpArgs false
set_option linter.unusedVariables false
set_option maxRecDepth 100000
open Go.RowKit
theorem ent9 (args:Array Value) (w:World):(callFunc 32 args).run Try.prog w=.ok (.enter 32 args) w:=by kernel_rfl
theorem hid_ofS {p:Prop} (h:p):Hid p:=h
set_option maxHeartbeats 4000000 in
theorem specChanIn_any (s s1 : Option Addr) (c c1 lo hi lo1 hi1 : Nat) (m : List (List WD)) (l : List Int) (n : Int) (w : World) (h : MemR w lo hi s m) (h1 : IntsR w lo1 hi1 s1 l) (hB : hi ≤ w.heap.size) (hB1 : hi1 ≤ w.heap.size) (hl : l.length ≤ 2000000) (hm : m.length + szR m ≤ 2000000) :
  Calls Try.prog 10 #[.agg #[.slice s m.length c],.slice s1 l.length c1,.int .i64 n] w fun e w'=>∃ v,e=.returned (.tuple #[.agg #[.int .i64 (chanMx152 m l n).cap,v,.bool (chanMx152 m l n).cl],.bool (chanMx152 m l n).ok])∧OwnN w' w.heap.size v (chanMx152 m l n).ls∧Below w.heap.size w w':=by
 have H:Hid (MemR w lo hi s m):=h
 have H1:Hid (IntsR w lo1 hi1 s1 l):=h1
 clear h h1
 go_enter Try.func10,Try.ntmps10
 go_wp2_with fail
 obtain ⟨W,hW⟩:∃ W,(w.alloc (.cells #[.slice s m.length c] 30)).alloc (.cells #[.int .i64 0,.slice none 0 0,.bool false] 34)=W:=⟨_,rfl⟩
 have kw:Below w.heap.size w W:=by rw [← hW];exact ((Below.refl _ _).alloc (Nat.le_refl _) _).alloc (by simp) _
 have zw:W.heap.size=w.heap.size+2:=by rw [← hW];simp
 have xa:W.cell? ⟨w.heap.size,0,none⟩=some (.slice s m.length c):=by rw [← hW];simp [go_sem]
 have xb:X3 W (w.heap.size+1) (.int .i64 0) (.slice none 0 0) (.bool false):=by rw [← hW];have:=X3.new (w.alloc (.cells #[.slice s m.length c] 30)) (.int .i64 0) (.slice none 0 0) (.bool false) 34;simpa using this
 rw [hW]
 clear hW
 have XB:Hid (X3 W (w.heap.size+1) (.int .i64 0) (.slice none 0 0) (.bool false)):=xb
 have KW:Hid (Below w.heap.size w W):=kw
 have RM:Hid (∀ X,Below W.heap.size W X→MemR X lo hi s m):=fun X hX=>(H.out.keep (Keep.of_below KW.out hB)).keep (Keep.of_below hX (by omega))
 have RL:Hid (∀ X,Below W.heap.size W X→IntsR X lo1 hi1 s1 l):=fun X hX=>(H1.out.keep (Keep.of_below KW.out hB1)).keep (Keep.of_below hX (by omega))
 have RB:Hid (∀ X,Below W.heap.size W X→X.cell? ⟨w.heap.size,0,none⟩=some (.slice s m.length c)):=fun X hX=>(hX.cell (p:=⟨w.heap.size,0,none⟩) (by show w.heap.size < _;omega)).trans xa
 have RX:Hid (∀ X,Below W.heap.size W X→X3 X (w.heap.size+1) (.int .i64 0) (.slice none 0 0) (.bool false)):=fun X hX=>XB.out.below hX (by omega)
 clear xa xb kw
 refine (specBase_any s1 c1 lo1 hi1 l n W (RL.out _ (Below.refl _ _)) (by omega) hl).mono ?_
 rintro e w1 ⟨rfl,hb1⟩
 have z1:=hb1.size
 have p1:=RB.out _ hb1
 obtain ⟨y0,y1,y2,y3,y4⟩:=RX.out _ hb1
 have K1:Hid (Below W.heap.size W w1):=hb1
 clear hb1
 rcases baseV_cases l n with hb | ⟨b,r,k,hn,hk,hb,hr,r1,r4,fit⟩
 ·have HE:Hid (chanMx152 m l n=zeroCH):=by show _=_;unfold chanMx152;rw [hb];rfl
  rw [hb]
  clear hb
  go_wp2
  refine bodyPost_ret (v:=.tuple #[.agg #[.int .i64 0,.slice none 0 0,.bool false],.bool false]) (by simp [results,Try.results10,go_sem, *]) rfl ⟨.slice none 0 0,by rw [HE.out];rfl,by rw [HE.out];exact ownN_nil _ _,?_⟩
  have K:=KW.out.trans ((K1.out).mono (by omega))
  exact ((K.setCell (p:=⟨w.heap.size+1,0,none⟩) (by simp) _).setCell (p:=⟨w.heap.size+1,1,none⟩) (by simp) _).setCell (p:=⟨w.heap.size+1,2,none⟩) (by simp) _
 subst hn
 rw [hb]
 have HE:Hid (chanMx152 m l k=if memB m&&fitB m b r then ⟨(r:Int),listV m b r,lastV m (b+3)==1,true⟩ else zeroCH):=by
  show _=_
  unfold chanMx152
  rw [hb,decide_eq_true (Int.natCast_nonneg b),Int.toNat_natCast,Int.toNat_natCast,Bool.true_and,hr,Int.toNat_natCast]
 have hbe:((b:Int)== -1)=false:=by rw [beq_eq_false_iff_ne];omega
 clear hb
 have mk:=specMemoryOk_any s c lo hi m w1 (RM.out _ K1.out) (by omega) hm
 by_cases hmb:memB m=true
 rotate_left
 ·have hmb':memB m=false:=by simpa using hmb
  rw [hmb'] at mk HE
  have HE2:Hid (chanMx152 m l k=zeroCH):=HE.out
  clear hmb hmb' HE
  have HE:=HE2
  clear HE2
  go_wp2_with (go_at_call 31;refine mk.mono ?_;rintro e w2 ⟨rfl,hb2⟩;have k2:Below W.heap.size W w2:=K1.out.trans (hb2.mono z1);obtain ⟨t0,t1,t2,t3,t4⟩:=RX.out _ k2)
  refine bodyPost_ret (v:=.tuple #[.agg #[.int .i64 0,.slice none 0 0,.bool false],.bool false]) (by simp [results,Try.results10,go_sem, *]) rfl ⟨.slice none 0 0,by rw [HE.out];rfl,by rw [HE.out];exact ownN_nil _ _,?_⟩
  have K:=KW.out.trans ((k2).mono (by omega))
  exact ((K.setCell (p:=⟨w.heap.size+1,0,none⟩) (by simp) _).setCell (p:=⟨w.heap.size+1,1,none⟩) (by simp) _).setCell (p:=⟨w.heap.size+1,2,none⟩) (by simp) _
 rw [hmb,Bool.true_and] at HE
 rw [hmb] at mk
 have HMB:Hid (memB m=true):=hmb
 clear hmb
 have M1:Hid (∀ X,Below W.heap.size W X→Calls Try.prog 32 #[.agg #[.slice s m.length c],.int .i64 ((b:Int)+1)] X fun e w'=>e=.returned (.int .i64 (lastV m (b+1)))∧w'=X.alloc (.cells #[.slice s m.length c] 30)):=fun X hX=>l9Last_is s c lo hi m (b+1) _ X (RM.out X hX) (by have:=hX.size;omega) HMB.out (by omega) (by omega)
 have M2:Hid (∀ X,Below W.heap.size W X→Calls Try.prog 32 #[.agg #[.slice s m.length c],.int .i64 ((b:Int)+2)] X fun e w'=>e=.returned (.int .i64 (lastV m (b+2)))∧w'=X.alloc (.cells #[.slice s m.length c] 30)):=fun X hX=>l9Last_is s c lo hi m (b+2) _ X (RM.out X hX) (by have:=hX.size;omega) HMB.out (by omega) (by omega)
 have M3:Hid (∀ X,Below W.heap.size W X→Calls Try.prog 32 #[.agg #[.slice s m.length c],.int .i64 ((b:Int)+3)] X fun e w'=>e=.returned (.int .i64 (lastV m (b+3)))∧w'=X.alloc (.cells #[.slice s m.length c] 30)):=fun X hX=>l9Last_is s c lo hi m (b+3) _ X (RM.out X hX) (by have:=hX.size;omega) HMB.out (by omega) (by omega)
 obtain ⟨g,o,rfl,a1,a2,a3⟩:=(RL.out W (Below.refl _ _)).pos (by omega)
 have ckW:=a3 k hk
 rw [hr] at ckW
 have RK:Hid (∀ X,Below W.heap.size W X→X.cell? ⟨g,o+k,none⟩=some (.int .i64 r)):=fun X hX=>(hX.cell (p:=⟨g,o+k,none⟩) (by show g < _;omega)).trans ckW
 have ck1:(k:Int) < (l.length:Int):=by omega
 have hdr:∀ X:World,X.drew.heap.size=X.heap.size:=fun _=>rfl
 have hw1:IntKind.i64.wrap ((b:Int)+1)=(b:Int)+1:=Go.IntWalk.i64_in _ (by omega)
 have hw2:IntKind.i64.wrap ((b:Int)+2)=(b:Int)+2:=Go.IntWalk.i64_in _ (by omega)
 have hw3:IntKind.i64.wrap ((b:Int)+3)=(b:Int)+3:=Go.IntWalk.i64_in _ (by omega)
 clear a3 hr ckW
 go_upto_region 4 with (go_at_call 31;refine mk.mono ?_;rintro e w2 ⟨rfl,hb2⟩;have k2:Below W.heap.size W w2:=K1.out.trans (hb2.mono z1);have p2:=RB.out _ k2)
 have z2:=hb2.size
 clear p1 mk hb2 y0 y1 y2 y3 y4 K1
 go_cut [9,10,11] (fun s9 s10 s11 wx=>s9=.int .i64 (lastV m (b+1))∧s10=.int .i64 (lastV m (b+2))∧s11=.int .i64 (lastV m (b+3))∧Below W.heap.size W wx)
 case first=>
  go_region_held3 (fun w'=>w'.cell? ⟨w.heap.size,0,none⟩=some (.slice s m.length c)) (first | exact RB.out _ (by repeat' (first | with_reducible exact k2 | with_reducible refine Below.drew ?_ | with_reducible refine Below.alloc ?_ (by first | omega | (simp [hdr];done) | (simp [hdr];omega)) _)) | go_keep) (first | (go_at_call 32;(first | with_reducible refine (M1.out _ (by repeat' (first | with_reducible exact k2 | with_reducible refine Below.drew ?_ | with_reducible refine Below.alloc ?_ (by first | omega | (simp [hdr];done) | (simp [hdr];omega)) _))).mono ?_ | with_reducible refine (M2.out _ (by repeat' (first | with_reducible exact k2 | with_reducible refine Below.drew ?_ | with_reducible refine Below.alloc ?_ (by first | omega | (simp [hdr];done) | (simp [hdr];omega)) _))).mono ?_ | with_reducible refine (M3.out _ (by repeat' (first | with_reducible exact k2 | with_reducible refine Below.drew ?_ | with_reducible refine Below.alloc ?_ (by first | omega | (simp [hdr];done) | (simp [hdr];omega)) _))).mono ?_);rintro e w6 ⟨rfl,hw6⟩;subst w6))
  all_goals
   go_wp2_with fail
   go_meet
   exact ⟨rfl,rfl,rfl,(by repeat' (first | with_reducible exact k2 | with_reducible refine Below.drew ?_ | with_reducible refine Below.alloc ?_ (by first | omega | (simp [hdr];done) | (simp [hdr];omega)) _))⟩
 case rest=>
  obtain ⟨rfl,rfl,rfl,hK⟩:=hcut
  have K5:Hid (Below W.heap.size W wc):=hK
  have zc:=hK.size
  have p5:=RB.out _ hK
  have ck:=RK.out _ hK
  obtain ⟨t0,t1,t2,t3,t4⟩:=RX.out _ hK
  clear hK p2 k2
  by_cases hf:0≤lastV m (b+1)∧lastV m (b+1)≤(r:Int) - 1
  rotate_left
  ·have hft:fitB m b r=false:=by unfold fitB;rw [decide_eq_false (by omega),Bool.false_and,Bool.false_and]
   have HE2:Hid (chanMx152 m l k=zeroCH):=by have q:=HE.out;rw [hft] at q;exact q
   have dhf:=decide_eq_false hf
   clear hft HE hf
   have HE:=HE2
   clear HE2
   go_wp2_with (go_at_call 21;with_reducible refine (l1InD_is (lastV m (b+1)) 0 ((r:Int) - 1) false _ dhf).mono ?_;rintro e w9 ⟨rfl,hw9⟩;subst w9)
   refine bodyPost_ret (v:=.tuple #[.agg #[.int .i64 0,.slice none 0 0,.bool false],.bool false]) (by simp [results,Try.results10,go_sem, *]) rfl ⟨.slice none 0 0,by rw [HE.out];rfl,by rw [HE.out];exact ownN_nil _ _,?_⟩
   have K:=KW.out.trans ((K5.out).mono (by omega))
   exact ((K.setCell (p:=⟨w.heap.size+1,0,none⟩) (by simp) _).setCell (p:=⟨w.heap.size+1,1,none⟩) (by simp) _).setCell (p:=⟨w.heap.size+1,2,none⟩) (by simp) _
  have dhf:=decide_eq_true hf
  by_cases hn:0≤lastV m (b+2)∧lastV m (b+2)≤(r:Int)
  rotate_left
  ·have hft:fitB m b r=false:=by unfold fitB;rw [decide_eq_false hn,Bool.and_false,Bool.false_and]
   have HE2:Hid (chanMx152 m l k=zeroCH):=by have q:=HE.out;rw [hft] at q;exact q
   have dhn:=decide_eq_false hn
   clear hft HE hn
   have HE:=HE2
   clear HE2
   go_wp2_with (first | (go_at_call 21;with_reducible refine (l1InD_is (lastV m (b+1)) 0 ((r:Int) - 1) true _ dhf).mono ?_;rintro e w9 ⟨rfl,hw9⟩;subst w9) | (go_at_call 21;with_reducible refine (l1InD_is (lastV m (b+2)) 0 (r:Int) false _ dhn).mono ?_;rintro e w9 ⟨rfl,hw9⟩;subst w9))
   refine bodyPost_ret (v:=.tuple #[.agg #[.int .i64 0,.slice none 0 0,.bool false],.bool false]) (by simp [results,Try.results10,go_sem, *]) rfl ⟨.slice none 0 0,by rw [HE.out];rfl,by rw [HE.out];exact ownN_nil _ _,?_⟩
   have K:=KW.out.trans ((K5.out).mono (by omega))
   exact ((K.setCell (p:=⟨w.heap.size+1,0,none⟩) (by simp) _).setCell (p:=⟨w.heap.size+1,1,none⟩) (by simp) _).setCell (p:=⟨w.heap.size+1,2,none⟩) (by simp) _
  have dhn:=decide_eq_true hn
  by_cases hc:0≤lastV m (b+3)∧lastV m (b+3)≤1
  rotate_left
  ·have hft:fitB m b r=false:=by unfold fitB;rw [decide_eq_false hc,Bool.and_false]
   have HE2:Hid (chanMx152 m l k=zeroCH):=by have q:=HE.out;rw [hft] at q;exact q
   have dhc:=decide_eq_false hc
   clear hft HE hc
   have HE:=HE2
   clear HE2
   go_wp2_with (first | (go_at_call 21;with_reducible refine (l1InD_is (lastV m (b+1)) 0 ((r:Int) - 1) true _ dhf).mono ?_;rintro e w9 ⟨rfl,hw9⟩;subst w9) | (go_at_call 21;with_reducible refine (l1InD_is (lastV m (b+2)) 0 (r:Int) true _ dhn).mono ?_;rintro e w9 ⟨rfl,hw9⟩;subst w9) | (go_at_call 21;with_reducible refine (l1InD_is (lastV m (b+3)) 0 1 false _ dhc).mono ?_;rintro e w9 ⟨rfl,hw9⟩;subst w9))
   refine bodyPost_ret (v:=.tuple #[.agg #[.int .i64 0,.slice none 0 0,.bool false],.bool false]) (by simp [results,Try.results10,go_sem, *]) rfl ⟨.slice none 0 0,by rw [HE.out];rfl,by rw [HE.out];exact ownN_nil _ _,?_⟩
   have K:=KW.out.trans ((K5.out).mono (by omega))
   exact ((K.setCell (p:=⟨w.heap.size+1,0,none⟩) (by simp) _).setCell (p:=⟨w.heap.size+1,1,none⟩) (by simp) _).setCell (p:=⟨w.heap.size+1,2,none⟩) (by simp) _
  have dhc:=decide_eq_true hc
  have HE2:Hid (chanMx152 m l k=⟨(r:Int),listV m b r,lastV m (b+3)==1,true⟩):=by
   have q:=HE.out
   rw [show fitB m b r=true by unfold fitB;rw [decide_eq_true (by omega),decide_eq_true hn,decide_eq_true hc];rfl] at q
   exact q
  have HL:Hid ((listV m b r).length=(lastV m (b+2)).toNat):=listV_len m b r
  have HF:Hid (0≤lastV m (b+1)∧lastV m (b+1)≤(r:Int) - 1):=hf
  have n0':=hn.1
  have n4':=hn.2
  clear HE hf hn hc
  go_wp2_with (first | (go_at_call 21;with_reducible refine (l1InD_is (lastV m (b+1)) 0 ((r:Int) - 1) true _ dhf).mono ?_;rintro e w9 ⟨rfl,hw9⟩;subst w9) | (go_at_call 21;with_reducible refine (l1InD_is (lastV m (b+2)) 0 (r:Int) true _ dhn).mono ?_;rintro e w9 ⟨rfl,hw9⟩;subst w9) | (go_at_call 21;with_reducible refine (l1InD_is (lastV m (b+3)) 0 1 true _ dhc).mono ?_;rintro e w9 ⟨rfl,hw9⟩;subst w9))
  obtain ⟨V,hV⟩:∃ V,wc.alloc (.cells #[.int .i64 r,.slice none 0 0,.bool (lastV m (b+3)==1)] 34)=V:=⟨_,rfl⟩
  have xo:X3 V wc.heap.size (.int .i64 r) (.slice none 0 0) (.bool (lastV m (b+3)==1)):=by rw [← hV];exact X3.new wc _ _ _ _
  have kV:Below W.heap.size W V:=by rw [← hV];exact K5.out.alloc zc _
  have zV:wc.heap.size < V.heap.size:=xo.lt
  rw [hV]
  have XO:Hid (X3 V wc.heap.size (.int .i64 r) (.slice none 0 0) (.bool (lastV m (b+3)==1))):=xo
  have KV:Hid (Below W.heap.size W V):=kV
  clear hV xo kV t0 t1 t2 t3 t4 p5 ck dhf dhn dhc M1 M2 M3 hw1 hw2 hw3
  generalize hcl:(lastV m (b+3)==1)=cl at XO HE2
  have hw4:IntKind.i64.wrap ((b:Int)+4)=(b:Int)+4:=Go.IntWalk.i64_in _ (by omega)
  go_loopw [13] (fun i wr=>∃ (j:Nat) (v:Value),j≤(listV m b r).length∧i=.int .i64 j∧OwnN wr (wc.heap.size+1) v ((listV m b r).take j)∧X3 wr wc.heap.size (.int .i64 r) v (.bool cl)∧Below W.heap.size W wr) (fun i _=>(listV m b r).length - (intOf i).toNat)
  case atStart=>exact ⟨0,_,Nat.zero_le _,rfl,ownN_nil _ _,XO.out,KV.out⟩
  case round=>
   obtain ⟨j,v,hj,rfl,ho,hx,hb⟩:=hrel
   obtain ⟨sv,cv,ev⟩:=ho.sl
   rw [List.length_take,Nat.min_eq_left hj] at ev
   subst ev
   have HO:Hid (OwnN wr (wc.heap.size+1) (.slice sv j cv) ((listV m b r).take j)):=ho
   have HX:Hid (X3 wr wc.heap.size (.int .i64 r) (.slice sv j cv) (.bool cl)):=hx
   have HB:Hid (Below W.heap.size W wr):=hb
   have zr:=hb.size
   obtain ⟨e0,e1,e2,e3,e4⟩:=hx
   clear ho hb
   have hL:=HL.out
   by_cases hlt:j < (listV m b r).length
   ·have hT:(listV m b r).take (j+1)=(listV m b r).take j++[(listV m b r).getD j 0]:=take_snoc' _ _ hlt
    rw [listV_at m b r j (by omega)] at hT
    have j0:=Int.emod_nonneg (lastV m (b+1)+(j:Int)) (show (r:Int)≠0 by omega)
    have jr:=Int.emod_lt_of_pos (lastV m (b+1)+(j:Int)) (show 0 < (r:Int) by omega)
    have rz:¬ (r:Int)=0:=by omega
    have rzn:¬ r=0:=by omega
    have hf:=HF.out
    have hw:IntKind.i64.wrap (lastV m (b+1)+(j:Int))=lastV m (b+1)+(j:Int):=Go.IntWalk.i64_in _ (by omega)
    have te:(lastV m (b+1)+(j:Int)).tmod r=(lastV m (b+1)+(j:Int)) % r:=Int.tmod_eq_emod_of_nonneg (by omega)
    have hw5:IntKind.i64.wrap ((b:Int)+4+(lastV m (b+1)+(j:Int)) % r)=(b:Int)+4+(lastV m (b+1)+(j:Int)) % r:=Go.IntWalk.i64_in _ (by omega)
    have jl:(j:Int) < lastV m (b+2):=by omega
    have jm:j < 4:=by omega
    have gz:g < W.heap.size:=by omega
    have ne1:¬ wc.heap.size=w.heap.size:=by omega
    have ne2:¬ w.heap.size=wc.heap.size:=by omega
    have ne3:¬ wc.heap.size=g:=by omega
    have ne4:¬ g=wc.heap.size:=by omega
    have lc:=l9Last_is s c lo hi m (b+4+((lastV m (b+1)+(j:Int)) % r).toNat) ((b:Int)+4+(lastV m (b+1)+(j:Int)) % r) wr.drew (RM.out _ HB.out.drew) (by show hi≤wr.heap.size;omega) HMB.out (by omega) (by omega)
    generalize lastV m (b+4+((lastV m (b+1)+(j:Int)) % r).toNat)=x at lc hT
    have HT:Hid ((listV m b r).take (j+1)=(listV m b r).take j++[x]):=hT
    have TL:Hid (((listV m b r).take j).length=j):=by show _=_;rw [List.length_take];omega
    generalize (listV m b r).take j=lk at HO HT TL
    have LK:Hid (Calls Try.prog 32 #[.agg #[.slice s m.length c],.int .i64 ((b:Int)+4+(lastV m (b+1)+(j:Int)) % r)] wr.drew fun e w'=>e=.returned (.int .i64 x)∧Below W.heap.size W w'∧OwnN w' (wc.heap.size+1) (.slice sv j cv) lk∧X3 w' wc.heap.size (.int .i64 r) (.slice sv j cv) (.bool cl)∧w'.cell? ⟨w.heap.size,0,none⟩=some (.slice s m.length c)∧w'.cell? ⟨g,o+k,none⟩=some (.int .i64 r)∧wr.heap.size≤w'.heap.size):=lc.mono fun e w' ⟨he,hw⟩=>by
     subst hw
     have q:Below W.heap.size W (wr.drew.alloc (.cells #[.slice s m.length c] 30)):=HB.out.drew.alloc zr _
     exact ⟨he,q,(show OwnN wr.drew _ _ _ from HO.out).alloc _,HX.out.below (((Below.refl wr.heap.size wr).drew).alloc (Nat.le_refl _) _) HX.out.lt,RB.out _ q,RK.out _ q,by show wr.heap.size≤(wr.drew.alloc _).heap.size;simp [hdr]⟩
    have m0:=RB.out _ HB.out
    have m1:=RK.out _ HB.out
    clear lc hT hj hL
    go_wp2_with fail
    go_region_law (first | (refine step_call 32 #[.agg #[.slice s m.length c],.int .i64 ((b:Int)+4+(lastV m (b+1)+(j:Int)) % r)] (by rfl) _ _ (by rfl) (by simp [go_sem]) ent9 ?_;refine LK.out.mono ?_;rintro e w7 ⟨rfl,k7,o7,x7,m7,c7,z7⟩;refine ⟨_,rfl,?_⟩;have O7:=hid_ofS o7;have K7:=hid_ofS k7;have X7:=hid_ofS x7;obtain ⟨n0,n1,n2,n3,n4⟩:=x7;clear o7 k7) | (refine step_row rfl _ _ rfl _ (wc.heap.size+1) (.slice sv j cv) lk rfl (O7.out.alloc (.cells #[.int .i64 x] 3)) w7.heap.size 0 1 [x] rfl (fun i hi=>by simp at hi;subst hi;simp [go_sem]) (by simp) (by have:=TL.out;simp;omega) (by simp;omega) ?_;intro g1 cap1 w1 ho1 hb1 hg1 hg1';have O1:=hid_ofS ho1;have B1:=hid_ofS hb1;have kk:∀ b o,b < wc.heap.size+1→w1.cell? ⟨b,o,none⟩=w7.cell? ⟨b,o,none⟩:=(fun b o hb=>(hb1.cell (p:=⟨b,o,none⟩) hb).trans (by simp [go_sem,show b < w7.heap.size by omega]));have kf:∀ b o,b < wc.heap.size+1→w1.frozen? ⟨b,o,none⟩=w7.frozen? ⟨b,o,none⟩:=(fun b o hb=>(hb1.frozen (p:=⟨b,o,none⟩) hb).trans (by simp [go_sem,show b < w7.heap.size by omega]));have s1:=(kk w.heap.size 0 (by omega)).trans m7;have s2:=(kk g (o+k) (by omega)).trans c7;have b0:=(kk wc.heap.size 0 (by omega)).trans n1;have b1:=(kk wc.heap.size 1 (by omega)).trans n2;have b2:=(kk wc.heap.size 2 (by omega)).trans n3;have b3:=(fun j=>(kf wc.heap.size j (by omega)).trans (n4 j));clear ho1 hb1 kk kf))
    all_goals
     go_wp2_with fail
     go_roundw
     case rel=>
      have tl:=TL.out
      refine ⟨j+1,.slice (some ⟨g1,0,none⟩) (lk.length+1) cap1,by omega,by go_num,?_,?_,?_⟩
      ·rw [HT.out]
       have q:=O1.out.set (a:=⟨wc.heap.size,1,none⟩) (Nat.lt_succ_self _) (.slice (some ⟨g1,0,none⟩) (lk.length+1) cap1)
       exact q
      ·have q:X3 w1 wc.heap.size (.int .i64 r) (.slice sv j cv) (.bool cl):=⟨by have:=B1.out.size;simp at this;omega,b0,b1,b2,b3⟩
       exact q.set1 _
      ·have zz:=K7.out.size
       exact (K7.out.trans ((((Below.refl W.heap.size w7).alloc zz _)).trans (B1.out.mono (by omega)))).setCell (p:=⟨wc.heap.size,1,none⟩) (by show W.heap.size≤wc.heap.size;omega) _
     case measure=>simp [intOf];omega
   ·have e:(listV m b r).take j=listV m b r:=List.take_of_length_le (by omega)
    have HO2:Hid (OwnN wr (wc.heap.size+1) (.slice sv j cv) (listV m b r)):=by have:=HO.out;rw [e] at this;exact this
    have hjn:¬ (j:Int) < lastV m (b+2):=by omega
    obtain ⟨y0,y1,y2,y3,y4⟩:=RX.out _ HB.out
    clear HO e hL
    go_wp2
    refine bodyPost_ret (v:=.tuple #[.agg #[.int .i64 r,.slice sv j cv,.bool cl],.bool true]) (by simp [results,Try.results10,go_sem,y0,y1,y2,y3,y4]) rfl ⟨.slice sv j cv,by rw [HE2.out],?_,?_⟩
    ·rw [HE2.out]
     exact (((HO2.out.set (a:=⟨w.heap.size+1,0,none⟩) (by show w.heap.size+1 < _;omega) _).set (a:=⟨w.heap.size+1,1,none⟩) (by show w.heap.size+1 < _;omega) _).set (a:=⟨w.heap.size+1,2,none⟩) (by show w.heap.size+1 < _;omega) _).low (by omega)
    ·have K:=KW.out.trans (HB.out.mono (by omega))
     exact ((K.setCell (p:=⟨w.heap.size+1,0,none⟩) (by simp) _).setCell (p:=⟨w.heap.size+1,1,none⟩) (by simp) _).setCell (p:=⟨w.heap.size+1,2,none⟩) (by simp) _
end Go.Proofs.Ytkhjhibigldcgaa
