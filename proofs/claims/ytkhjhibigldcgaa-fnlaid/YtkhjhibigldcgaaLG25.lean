/- Where channels lie: sums alone. No condition. ChanIn of the program. Conditions: what comes in is counted. sameInts of the laws, beside Lists. Conditions: rows of at most a thousand million numbers. -/
import Derived.Test.YtkhjhibigldcgaaLG00
import Derived.Test.YtkhjhibigldcgaaLG04
import Derived.Test.YtkhjhibigldcgaaLG02
import Derived.Test.YtkhjhibigldcgaaLG01
import Derived.Test.YtkhjhibigldcgaaLN9ChanS
import Derived.Test.YtkhjhibigldcgaaLN9Ring
import Derived.Test.YtkhjhibigldcgaaLG03
import Derived.Test.YtkhjhibigldcgaaLG24
import Derived.Deep.RegionHeld3
import Derived.Deep.DeepCutAuto
namespace Go.Proofs.Ytkhjhibigldcgaa
section
set_option linter.unusedSimpArgs false
set_option linter.unusedVariables false
set_option maxRecDepth 100000
theorem base_in {l:List Int} {n:Int} (h:0≤baseV l n):capsR l=true∧sumC l≤24∧0≤n∧n < l.length∧baseV l n=sumC (l.take n.toNat):=by
 unfold baseV at h ⊢
 by_cases q:capsR l=true∧sumC l≤24∧0≤n∧n < l.length
 ·rw [if_pos q]
  exact ⟨q.1,q.2.1,q.2.2.1,q.2.2.2,rfl⟩
 ·rw [if_neg q] at h
  omega
theorem base_room {l:List Int} {k:Nat} (h:0≤baseV l k):baseV l k+l.getD k 0+4≤24:=by
 obtain ⟨h1,h2,-,h4,e⟩:=base_in h
 have:=sumC_next h1 (k:=k) (by omega)
 rw [e]
 simp only [Int.toNat_natCast]
 omega
theorem base_prev {l:List Int} {k:Nat} (h:0≤baseV l ((k+1:Nat):Int)):baseV l (k:Int)+l.getD k 0+4=baseV l ((k+1:Nat):Int):=by
 obtain ⟨h1,h2,-,h4,e⟩:=base_in h
 have q:=sumC_take l k (by omega)
 rw [e]
 unfold baseV
 rw [if_pos ⟨h1,h2,by omega,by omega⟩]
 simp only [Int.toNat_natCast]
 omega
theorem base_zero {l:List Int} (h:0≤baseV l 0):baseV l 0=0:=by
 obtain ⟨-,-,-,-,e⟩:=base_in h
 rw [e]
 simp [sumC]
theorem base_lt {l:List Int} {n:Int} (h:0≤baseV l n):∃ k:Nat,n=(k:Int)∧k < l.length:=by
 obtain ⟨-,-,h3,h4,-⟩:=base_in h
 exact ⟨n.toNat,by omega,by omega⟩
theorem base_cap {l:List Int} {k:Nat} (h:0≤baseV l k):1≤l.getD k 0∧l.getD k 0≤4:=by
 obtain ⟨h1,-,-,h4,-⟩:=base_in h
 exact capsR_at h1 (by omega)
theorem chan_no {m:List (List WD)} {l:List Int} {n:Int} (h:(chanMx152 m l n).ok=false):chanMx152 m l n=zeroCH:=by
 unfold chanMx152 at h ⊢
 split
 ·rename_i q
  rw [if_pos q] at h
  cases h
 ·rfl
theorem chan_yes {m:List (List WD)} {l:List Int} {n:Int} (h:(chanMx152 m l n).ok=true):∃ k:Nat,n=(k:Int)∧k < l.length∧(chanMx152 m l n).cap=l.getD k 0∧1≤l.getD k 0∧l.getD k 0≤4∧((chanMx152 m l n).ls.length:Int)≤l.getD k 0:=by
 unfold chanMx152 at h ⊢
 split
 ·rename_i q
  simp only [Bool.and_eq_true,decide_eq_true_eq] at q
  obtain ⟨⟨q1,q2⟩,q3⟩:=q
  obtain ⟨k,rfl,hk⟩:=base_lt q1
  have hc:=base_cap q1
  refine ⟨k,rfl,hk,by simp,hc.1,hc.2,?_⟩
  simp only [listV_len,Int.toNat_natCast] at q3 ⊢
  unfold fitB at q3
  simp only [Bool.and_eq_true,decide_eq_true_eq] at q3
  omega
 ·rename_i q
  rw [if_neg q] at h
  cases h
end
section
set_option linter.unusedSimpArgs false
set_option linter.unusedVariables false
set_option maxRecDepth 100000
open Go.RowKit
def CutC (V:World) (m:List (List WD)) (b r:Nat) (v10 v11:Value) (wx:World):Prop:=∃ bo,v10=.pointer (some ⟨bo,0,none⟩)∧V.heap.size≤bo∧R7 wx bo (ringX m b r) r (lastV m (b+1)) (lastV m (b+2))∧v11=.int .i64 (lastV m (b+3))∧Below V.heap.size V wx
theorem cutC1 {V wA:World} {m:List (List WD)} {b r p:Nat} {T:TypeId} (h:Below V.heap.size V wA) (hp:p=wA.heap.size):CutC V m b r (.pointer (some ⟨p,0,none⟩)) (.int .i64 (lastV m (b+3))) (wA.alloc (.cells #[.int .i64 (ringX m b r 0),.int .i64 (ringX m b r 1),.int .i64 (ringX m b r 2),.int .i64 (ringX m b r 3),.int .i64 r,.int .i64 (lastV m (b+1)),.int .i64 (lastV m (b+2))] T)):=by
 subst hp
 exact ⟨_,rfl,h.size,R7.new wA (ringX m b r) r _ _ T,rfl,h.alloc h.size _⟩
theorem cutC2 {V wA:World} {m:List (List WD)} {b r p:Nat} {T:TypeId} {o:Obj} (h:Below V.heap.size V wA) (hp:p=wA.heap.size):CutC V m b r (.pointer (some ⟨p,0,none⟩)) (.int .i64 (lastV m (b+3))) ((wA.alloc (.cells #[.int .i64 (ringX m b r 0),.int .i64 (ringX m b r 1),.int .i64 (ringX m b r 2),.int .i64 (ringX m b r 3),.int .i64 r,.int .i64 (lastV m (b+1)),.int .i64 (lastV m (b+2))] T)).alloc o):=by
 subst hp
 exact ⟨_,rfl,h.size,(R7.new wA (ringX m b r) r _ _ T).below ((Below.refl _ _).alloc (Nat.le_refl _) o) (by simp),rfl,(h.alloc h.size _).alloc (Nat.le_trans h.size (by simp)) _⟩
theorem cutC3 {V w7:World} {m:List (List WD)} {b r:Nat} (hx:R7 w7 V.heap.size (fun _=>0) 0 0 0) (h:Below V.heap.size V w7):CutC V m b r (.pointer (some ⟨V.heap.size,0,none⟩)) (.int .i64 (lastV m (b+3))) (((((((w7.setCell ⟨V.heap.size,0,none⟩ (.int .i64 (ringX m b r 0))).setCell ⟨V.heap.size,1,none⟩ (.int .i64 (ringX m b r 1))).setCell ⟨V.heap.size,2,none⟩ (.int .i64 (ringX m b r 2))).setCell ⟨V.heap.size,3,none⟩ (.int .i64 (ringX m b r 3))).setCell ⟨V.heap.size,4,none⟩ (.int .i64 r)).setCell ⟨V.heap.size,5,none⟩ (.int .i64 (lastV m (b+1)))).setCell ⟨V.heap.size,6,none⟩ (.int .i64 (lastV m (b+2)))):=by
 refine ⟨_,rfl,Nat.le_refl _,((((((hx.setx 0 (by omega) (ringX m b r 0) (fun i=>if i=0 then ringX m b r 0 else 0) (fun i _=>rfl)).setx 1 (by omega) (ringX m b r 1) (fun i=>if i < 2 then ringX m b r i else 0) (fun i _=>?_)).setx 2 (by omega) (ringX m b r 2) (fun i=>if i < 3 then ringX m b r i else 0) (fun i _=>?_)).setx 3 (by omega) (ringX m b r 3) (ringX m b r) (fun i hi=>?_)).set4 r).set5 _).set6 _,rfl,?_⟩
 ·by_cases e:i=1
  ·subst e;rfl
  ·by_cases e0:i=0
   ·subst e0;rfl
   ·rw [if_neg (by omega),if_neg e,if_neg e0]
 ·by_cases e:i=2
  ·subst e;rfl
  ·rw [if_neg e]
   by_cases e0:i < 2
   ·rw [if_pos (by omega),if_pos e0]
   ·rw [if_neg (by omega),if_neg e0]
 ·by_cases e:i=3
  ·subst e;rfl
  ·rw [if_neg e,if_pos (by omega)]
 ·refine Below.setCell (Below.setCell (Below.setCell (Below.setCell (Below.setCell (Below.setCell (Below.setCell h ?_ _) ?_ _) ?_ _) ?_ _) ?_ _) ?_ _) ?_ _<;>exact Nat.le_refl _
set_option maxHeartbeats 4000000 in
theorem implChanIn_any (s s1 : Option Addr) (c c1 lo hi lo1 hi1 : Nat) (m : List (List WD)) (l : List Int) (n : Int) (w : World) (h : MemR w lo hi s m) (h1 : IntsR w lo1 hi1 s1 l) (hB : hi ≤ w.heap.size) (hB1 : hi1 ≤ w.heap.size) (hl : l.length ≤ 2000000) (hm : m.length + szR m ≤ 2000000) :
  Calls Try.prog 9 #[.agg #[.slice s m.length c],.slice s1 l.length c1,.int .i64 n] w fun e w'=>∃ v,e=.returned (.tuple #[.agg #[.int .i64 (chanMx152 m l n).cap,v,.bool (chanMx152 m l n).cl],.bool (chanMx152 m l n).ok])∧OwnN w' w.heap.size v (chanMx152 m l n).ls∧Below w.heap.size w w':=by
 have H:Hid (MemR w lo hi s m):=h
 have H1:Hid (IntsR w lo1 hi1 s1 l):=h1
 clear h h1
 go_enter Try.func9,Try.ntmps9
 go_wp2_with fail
 obtain ⟨W,hW⟩:∃ W,(w.alloc (.cells #[.slice s m.length c] 30)).alloc (.cells #[.int .i64 0,.slice none 0 0,.bool false] 34)=W:=⟨_,rfl⟩
 have kw:Below w.heap.size w W:=by rw [← hW];exact ((Below.refl _ _).alloc (Nat.le_refl _) _).alloc (by simp) _
 have zw:W.heap.size=w.heap.size+2:=by rw [← hW];simp
 have xa:W.cell? ⟨w.heap.size,0,none⟩=some (.slice s m.length c):=by rw [← hW];simp [go_sem]
 have xb:X3 W (w.heap.size+1) (.int .i64 0) (.slice none 0 0) (.bool false):=by rw [← hW];have:=X3.new (w.alloc (.cells #[.slice s m.length c] 30)) (.int .i64 0) (.slice none 0 0) (.bool false) 34;simpa using this
 rw [hW]
 clear hW
 have XB:Hid (X3 W (w.heap.size+1) (.int .i64 0) (.slice none 0 0) (.bool false)):=xb
 have KW:Hid (Below w.heap.size w W):=kw
 have RM:Hid (∀ X,Below W.heap.size W X→MemR X lo hi s m):=fun X hX=>(H.out.keep (Keep.of_below KW.out hB)).keep (Keep.of_below hX (by omega))
 have RL:Hid (∀ X,Below W.heap.size W X→IntsR X lo1 hi1 s1 l):=fun X hX=>(H1.out.keep (Keep.of_below KW.out hB1)).keep (Keep.of_below hX (by omega))
 have RB:Hid (∀ X,Below W.heap.size W X→X.cell? ⟨w.heap.size,0,none⟩=some (.slice s m.length c)):=fun X hX=>(hX.cell (p:=⟨w.heap.size,0,none⟩) (by show w.heap.size < _;omega)).trans xa
 have RX:Hid (∀ X,Below W.heap.size W X→X3 X (w.heap.size+1) (.int .i64 0) (.slice none 0 0) (.bool false)):=fun X hX=>XB.out.below hX (by omega)
 clear xa xb kw
 refine (implBase_any s1 c1 lo1 hi1 l n W (RL.out _ (Below.refl _ _)) (by omega) hl).mono ?_
 rintro e w1 ⟨rfl,hb1⟩
 have z1:=hb1.size
 have p1:=RB.out _ hb1
 obtain ⟨y0,y1,y2,y3,y4⟩:=RX.out _ hb1
 have K1:Hid (Below W.heap.size W w1):=hb1
 clear hb1
 rcases baseV_cases l n with hb | ⟨b,r,k,hn,hk,hb,hr,r1,r4,fit⟩
 ·have HE:Hid (chanMx152 m l n=zeroCH):=by show _=_;unfold chanMx152;rw [hb];rfl
  rw [hb]
  clear hb
  go_wp2
  refine bodyPost_ret (v:=.tuple #[.agg #[.int .i64 0,.slice none 0 0,.bool false],.bool false]) (by simp [results,Try.results9,go_sem, *]) rfl ⟨.slice none 0 0,by rw [HE.out];rfl,by rw [HE.out];exact ownN_nil _ _,?_⟩
  have K:=KW.out.trans ((K1.out).mono (by omega))
  exact ((K.setCell (p:=⟨w.heap.size+1,0,none⟩) (by simp) _).setCell (p:=⟨w.heap.size+1,1,none⟩) (by simp) _).setCell (p:=⟨w.heap.size+1,2,none⟩) (by simp) _
 subst hn
 rw [hb]
 have HE:Hid (chanMx152 m l k=if memB m&&fitB m b r then ⟨(r:Int),listV m b r,lastV m (b+3)==1,true⟩ else zeroCH):=by
  show _=_
  unfold chanMx152
  rw [hb,decide_eq_true (Int.natCast_nonneg b),Int.toNat_natCast,Int.toNat_natCast,Bool.true_and,hr,Int.toNat_natCast]
 have hbe:((b:Int)== -1)=false:=by rw [beq_eq_false_iff_ne];omega
 clear hb
 have mk:=implMemoryOk_any s c lo hi m w1 (RM.out _ K1.out) (by omega) hm
 by_cases hmb:memB m=true
 rotate_left
 ·have hmb':memB m=false:=by simpa using hmb
  rw [hmb'] at mk HE
  have HE2:Hid (chanMx152 m l k=zeroCH):=HE.out
  clear hmb hmb' HE
  have HE:=HE2
  clear HE2
  go_wp2_with (go_at_call 24;refine mk.mono ?_;rintro e w2 ⟨rfl,hb2⟩;have k2:Below W.heap.size W w2:=K1.out.trans (hb2.mono z1);obtain ⟨t0,t1,t2,t3,t4⟩:=RX.out _ k2)
  refine bodyPost_ret (v:=.tuple #[.agg #[.int .i64 0,.slice none 0 0,.bool false],.bool false]) (by simp [results,Try.results9,go_sem, *]) rfl ⟨.slice none 0 0,by rw [HE.out];rfl,by rw [HE.out];exact ownN_nil _ _,?_⟩
  have K:=KW.out.trans ((k2).mono (by omega))
  exact ((K.setCell (p:=⟨w.heap.size+1,0,none⟩) (by simp) _).setCell (p:=⟨w.heap.size+1,1,none⟩) (by simp) _).setCell (p:=⟨w.heap.size+1,2,none⟩) (by simp) _
 rw [hmb,Bool.true_and] at HE
 rw [hmb] at mk
 have HMB:Hid (memB m=true):=hmb
 clear hmb
 go_upto_region 5 with (first | (go_at_call 24;refine mk.mono ?_;rintro e w2 ⟨rfl,hb2⟩;have k2:Below W.heap.size W w2:=K1.out.trans (hb2.mono z1);have p2:=RB.out _ k2) | (go_at_call 25;refine (cellsFrom_is _ _).mono ?_;rintro e w3 ⟨rfl,hw3⟩))
 obtain ⟨V,hV,bx,kb,zv⟩:=Bo1.new w2 (.int .i64 b) 3
 rw [hV]
 clear hV hw3
 have zv1:w2.heap.size+1≤V.heap.size:=by omega
 have zv2:w2.heap.size < V.heap.size:=by omega
 clear zv
 have z2:=hb2.size
 have kV:Below W.heap.size W V:=k2.trans (kb.mono (by omega))
 have KV:Hid (Below W.heap.size W V):=kV
 have q0:=bx.c0
 have q1:=RB.out _ kV
 have RM2:Hid (∀ X,Below V.heap.size V X→MemR X lo hi s m):=fun X hX=>RM.out X (KV.out.trans (hX.mono (by omega)))
 have RB2:Hid (∀ X,Below V.heap.size V X→X.cell? ⟨w.heap.size,0,none⟩=some (.slice s m.length c)):=fun X hX=>RB.out X (KV.out.trans (hX.mono (by omega)))
 have RC2:Hid (∀ X,Below V.heap.size V X→X.cell? ⟨w2.heap.size,0,none⟩=some (.int .i64 b)):=fun X hX=>(hX.cell (p:=⟨w2.heap.size,0,none⟩) (by show w2.heap.size < _;omega)).trans bx.c0
 have RG:Hid (∀ X,Below V.heap.size V X→Calls Try.prog 26 #[.agg #[.slice s m.length c],.func (.func 42) #[] #[.pointer (some ⟨w2.heap.size,0,none⟩)],.int .i64 r] X fun e w'=>e=.returned (.agg #[.int .i64 (ringX m b r 0),.int .i64 (ringX m b r 1),.int .i64 (ringX m b r 2),.int .i64 (ringX m b r 3),.int .i64 r,.int .i64 (lastV m (b+1)),.int .i64 (lastV m (b+2))])∧Below X.heap.size X w'):=fun X hX=>ringIn_any s c lo hi w2.heap.size b r m X (RM2.out X hX) (by have:=hX.size;omega) HMB.out (RC2.out X hX) (by have:=hX.size;omega) r1 r4 fit
 have RG1:Hid (Calls Try.prog 26 #[.agg #[.slice s m.length c],.func (.func 42) #[] #[.pointer (some ⟨w2.heap.size,0,none⟩)],.int .i64 r] V.drew fun e w'=>e=.returned (.agg #[.int .i64 (ringX m b r 0),.int .i64 (ringX m b r 1),.int .i64 (ringX m b r 2),.int .i64 (ringX m b r 3),.int .i64 r,.int .i64 (lastV m (b+1)),.int .i64 (lastV m (b+2))])∧Below V.heap.size V w'):=(RG.out V.drew ((Below.refl _ _).drew)).mono fun e w' ⟨he,hb⟩=>⟨he,((Below.refl V.heap.size V).drew).trans hb⟩
 have RG2:Hid (Calls Try.prog 26 #[.agg #[.slice s m.length c],.func (.func 42) #[] #[.pointer (some ⟨w2.heap.size,0,none⟩)],.int .i64 r] (V.alloc (.cells #[.int .i64 0,.int .i64 0,.int .i64 0,.int .i64 0,.int .i64 0,.int .i64 0,.int .i64 0] 54)).drew fun e w'=>e=.returned (.agg #[.int .i64 (ringX m b r 0),.int .i64 (ringX m b r 1),.int .i64 (ringX m b r 2),.int .i64 (ringX m b r 3),.int .i64 r,.int .i64 (lastV m (b+1)),.int .i64 (lastV m (b+2))])∧Below V.heap.size V w'∧R7 w' V.heap.size (fun _=>0) 0 0 0):=(RG.out _ (((Below.refl _ _).alloc (Nat.le_refl _) _).drew)).mono fun e w' ⟨he,hb⟩=>by
  have q:=(R7.new V (fun _=>0) 0 0 0 54).keep (w':=(V.alloc (.cells #[.int .i64 0,.int .i64 0,.int .i64 0,.int .i64 0,.int .i64 0,.int .i64 0,.int .i64 0] 54)).drew) rfl (Nat.le_refl _)
  have q':=q.below hb (by show V.heap.size < (V.alloc _).heap.size;simp)
  exact ⟨he,(((Below.refl V.heap.size V).alloc (Nat.le_refl _) _).drew).trans (hb.mono (by show V.heap.size≤(V.alloc _).heap.size;simp)),q'⟩
 have F3:Hid (∀ X,Below V.heap.size V X→Calls Try.prog 42 #[.int .i64 3,.pointer (some ⟨w2.heap.size,0,none⟩)] X fun e w'=>e=.returned (.int .i64 ((b:Int)+3))∧w'=X):=fun X hX=>cell_is w2.heap.size b 3 X (RC2.out X hX) (by omega) (by omega) (by omega) (by omega)
 have L3:Hid (∀ X,Below V.heap.size V X→Calls Try.prog 27 #[.agg #[.slice s m.length c],.int .i64 ((b:Int)+3)] X fun e w'=>e=.returned (.int .i64 (lastV m (b+3)))∧w'=X.alloc (.cells #[.slice s m.length c] 30)):=fun X hX=>lastOf_is s c lo hi m (b+3) _ X (RM2.out X hX) (by have:=hX.size;omega) HMB.out (by omega) (by omega)
 have L3z:Hid (∀ X,Below V.heap.size V X→R7 X V.heap.size (fun _=>0) 0 0 0→Calls Try.prog 27 #[.agg #[.slice s m.length c],.int .i64 ((b:Int)+3)] X fun e w'=>e=.returned (.int .i64 (lastV m (b+3)))∧Below V.heap.size V w'∧R7 w' V.heap.size (fun _=>0) 0 0 0):=fun X hX hq=>(L3.out X hX).mono fun e w' ⟨he,hw⟩=>by subst hw;exact ⟨he,hX.alloc hX.size _,hq.below ((Below.refl _ _).alloc (Nat.le_refl _) _) hq.lt⟩
 obtain ⟨g,o,rfl,a1,a2,a3⟩:=(RL.out V kV).pos (by omega)
 have ck:=a3 k hk
 rw [hr] at ck
 have ck1:(k:Int) < (l.length:Int):=by omega
 have gV:g < V.heap.size:=by omega
 have kD:Below V.heap.size V V.drew:=Below.drew (Below.refl _ _)
 have kD0:Below V.heap.size V V:=Below.refl _ _
 have hdr:∀ X:World,X.drew.heap.size=X.heap.size:=fun _=>rfl
 have RK:Hid (∀ X,Below V.heap.size V X→X.cell? ⟨g,o+k,none⟩=some (.int .i64 r)):=fun X hX=>(hX.cell (p:=⟨g,o+k,none⟩) gV).trans ck
 have HLV:Hid (∃ f n cl,lastV m (b+1)=f∧lastV m (b+2)=n∧lastV m (b+3)=cl):=⟨_,_,_,rfl,rfl,rfl⟩
 clear p1 p2 k2 hb2 kb bx a3 hr mk y0 y1 y2 y3 y4
 go_cut [10,11] (fun s10 s11 wx=>CutC V m b r s10 s11 wx)
 case first=>
  go_region_held3 (fun w'=>w'.cell? ⟨w.heap.size,0,none⟩=some (.slice s m.length c)∧w'.cell? ⟨g,o+k,none⟩=some (.int .i64 r)) (first | exact ⟨RB2.out _ (by repeat' (first | with_reducible exact kD | with_reducible exact kD0 | with_reducible exact k6 | with_reducible exact k7 | with_reducible refine Below.drew ?_ | with_reducible refine Below.alloc ?_ (by first | omega | (simp [hdr];done) | (simp [hdr];omega)) _ | with_reducible refine Below.setCell ?_ (by first | omega | (simp [hdr];done) | (simp [hdr];omega)) _)),RK.out _ (by repeat' (first | with_reducible exact kD | with_reducible exact kD0 | with_reducible exact k6 | with_reducible exact k7 | with_reducible refine Below.drew ?_ | with_reducible refine Below.alloc ?_ (by first | omega | (simp [hdr];done) | (simp [hdr];omega)) _ | with_reducible refine Below.setCell ?_ (by first | omega | (simp [hdr];done) | (simp [hdr];omega)) _))⟩ | go_keep) (first | (go_at_call 42;with_reducible refine (F3.out _ (by repeat' (first | with_reducible exact kD | with_reducible exact kD0 | with_reducible exact k6 | with_reducible exact k7 | with_reducible refine Below.drew ?_ | with_reducible refine Below.alloc ?_ (by first | omega | (simp [hdr];done) | (simp [hdr];omega)) _ | with_reducible refine Below.setCell ?_ (by first | omega | (simp [hdr];done) | (simp [hdr];omega)) _))).mono ?_;rintro e w5 ⟨rfl,hw5⟩;subst w5) | (go_at_call 27;first | (with_reducible refine (L3z.out _ k6 Q6.out).mono ?_;rintro e w7 ⟨rfl,k7,q7⟩;have z7:=k7.size;have v0:w7.cell? ⟨V.heap.size,0,none⟩=some (.int .i64 0):=q7.c 0 (by omega);have v1:w7.cell? ⟨V.heap.size,1,none⟩=some (.int .i64 0):=q7.c 1 (by omega);have v2:w7.cell? ⟨V.heap.size,2,none⟩=some (.int .i64 0):=q7.c 2 (by omega);have v3:w7.cell? ⟨V.heap.size,3,none⟩=some (.int .i64 0):=q7.c 3 (by omega);have v4:w7.cell? ⟨V.heap.size,4,none⟩=some (.int .i64 0):=q7.c4;have v5:w7.cell? ⟨V.heap.size,5,none⟩=some (.int .i64 0):=q7.c5;have v6:w7.cell? ⟨V.heap.size,6,none⟩=some (.int .i64 0):=q7.c6;have vf:=q7.fz;have vl:=q7.lt;have Q7:=hid_of q7;clear q7) | (with_reducible refine (L3.out _ (by repeat' (first | with_reducible exact kD | with_reducible exact kD0 | with_reducible exact k6 | with_reducible exact k7 | with_reducible refine Below.drew ?_ | with_reducible refine Below.alloc ?_ (by first | omega | (simp [hdr];done) | (simp [hdr];omega)) _ | with_reducible refine Below.setCell ?_ (by first | omega | (simp [hdr];done) | (simp [hdr];omega)) _))).mono ?_;rintro e w7 ⟨rfl,hw7⟩;subst w7)) | (go_at_call 26;first | (with_reducible refine (RG1.out).mono ?_;rintro e w6 ⟨rfl,k6⟩;have z6:=k6.size) | (with_reducible refine (RG2.out).mono ?_;rintro e w6 ⟨rfl,k6,q6⟩;have z6:=k6.size;have Q6:=hid_of q6;clear q6)))
  all_goals
   go_wp2_with fail
   go_meet
   first
    | with_reducible exact cutC1 (by repeat' (first | with_reducible exact kD | with_reducible exact kD0 | with_reducible exact k6 | with_reducible exact k7 | with_reducible refine Below.drew ?_ | with_reducible refine Below.alloc ?_ (by first | omega | (simp [hdr];done) | (simp [hdr];omega)) _ | with_reducible refine Below.setCell ?_ (by first | omega | (simp [hdr];done) | (simp [hdr];omega)) _)) (by first | rfl | omega | (simp;done) | (simp;omega))
    | with_reducible exact cutC2 (by repeat' (first | with_reducible exact kD | with_reducible exact kD0 | with_reducible exact k6 | with_reducible exact k7 | with_reducible refine Below.drew ?_ | with_reducible refine Below.alloc ?_ (by first | omega | (simp [hdr];done) | (simp [hdr];omega)) _ | with_reducible refine Below.setCell ?_ (by first | omega | (simp [hdr];done) | (simp [hdr];omega)) _)) (by first | rfl | omega | (simp;done) | (simp;omega))
    | with_reducible exact cutC3 Q7.out k7
 case rest=>
  obtain ⟨bo,rfl,hbo,hx,rfl,hK⟩:=hcut
  have HX:Hid (R7 wc bo (ringX m b r) r (lastV m (b+1)) (lastV m (b+2))):=hx
  have HK:Hid (Below W.heap.size W wc):=KV.out.trans (hK.mono (by omega))
  have zc:=HK.out.size
  have c0:=hx.c 0 (by omega)
  have c1':=hx.c 1 (by omega)
  have c2:=hx.c 2 (by omega)
  have c3:=hx.c 3 (by omega)
  have c4:=hx.c4
  have c5:=hx.c5
  have c6:=hx.c6
  have cl':=hx.lt
  clear hx hK q0 q1 RM2 RB2 RC2 RG RG1 RG2 F3 L3 L3z RK ck kD kD0
  have ro:=fun X=>ringOk_is (ringX m b r 0) (ringX m b r 1) (ringX m b r 2) (ringX m b r 3) (lastV m (b+1)) (lastV m (b+2)) r X r4
  have fl:=fun X=>isFlag_is (lastV m (b+3)) X
  by_cases hfn:(decide (0≤lastV m (b+1)∧lastV m (b+1) < (r:Int))&&decide (0≤lastV m (b+2)∧lastV m (b+2)≤(r:Int)))=true
  rotate_left
  ·have hfn':(decide (0≤lastV m (b+1)∧lastV m (b+1) < (r:Int))&&decide (0≤lastV m (b+2)∧lastV m (b+2)≤(r:Int)))=false:=by simpa using hfn
   have hft:fitB m b r=false:=by unfold fitB;rw [hfn',Bool.false_and]
   rw [hfn'] at ro
   rw [hft] at HE
   have HE2:Hid (chanMx152 m l k=zeroCH):=HE.out
   clear hfn hfn' hft HE fl
   have HE:=HE2
   clear HE2
   go_wp2_with (go_at_call 28;refine (ro _).mono ?_;rintro e w8 ⟨rfl,hb8⟩;have k8:Below W.heap.size W w8:=HK.out.trans (hb8.mono zc);obtain ⟨t0,t1,t2,t3,t4⟩:=RX.out _ k8)
   refine bodyPost_ret (v:=.tuple #[.agg #[.int .i64 0,.slice none 0 0,.bool false],.bool false]) (by simp [results,Try.results9,go_sem, *]) rfl ⟨.slice none 0 0,by rw [HE.out];rfl,by rw [HE.out];exact ownN_nil _ _,?_⟩
   have K:=KW.out.trans ((k8).mono (by omega))
   exact ((K.setCell (p:=⟨w.heap.size+1,0,none⟩) (by simp) _).setCell (p:=⟨w.heap.size+1,1,none⟩) (by simp) _).setCell (p:=⟨w.heap.size+1,2,none⟩) (by simp) _
  rw [hfn] at ro
  by_cases hcl:0≤lastV m (b+3)∧lastV m (b+3)≤1
  rotate_left
  ·have hft:fitB m b r=false:=by unfold fitB;rw [decide_eq_false hcl,Bool.and_false]
   rw [decide_eq_false hcl] at fl
   rw [hft] at HE
   have HE2:Hid (chanMx152 m l k=zeroCH):=HE.out
   clear hfn hcl hft HE
   have HE:=HE2
   clear HE2
   go_wp2_with (first | (go_at_call 28;refine (ro _).mono ?_;rintro e w8 ⟨rfl,hb8⟩;have k8:Below W.heap.size W w8:=HK.out.trans (hb8.mono zc);obtain ⟨t0,t1,t2,t3,t4⟩:=RX.out _ k8) | (go_at_call 29;refine (fl _).mono ?_;rintro e w9 ⟨rfl,hw9⟩;subst w9))
   refine bodyPost_ret (v:=.tuple #[.agg #[.int .i64 0,.slice none 0 0,.bool false],.bool false]) (by simp [results,Try.results9,go_sem, *]) rfl ⟨.slice none 0 0,by rw [HE.out];rfl,by rw [HE.out];exact ownN_nil _ _,?_⟩
   have K:=KW.out.trans ((k8).mono (by omega))
   exact ((K.setCell (p:=⟨w.heap.size+1,0,none⟩) (by simp) _).setCell (p:=⟨w.heap.size+1,1,none⟩) (by simp) _).setCell (p:=⟨w.heap.size+1,2,none⟩) (by simp) _
  rw [decide_eq_true hcl] at fl
  have hft:fitB m b r=true:=by unfold fitB;rw [hfn,decide_eq_true hcl,Bool.and_self]
  rw [hft] at HE
  have HE2:Hid (chanMx152 m l k=⟨(r:Int),listV m b r,lastV m (b+3)==1,true⟩):=HE.out
  rw [Bool.and_eq_true,decide_eq_true_eq,decide_eq_true_eq] at hfn
  have HR:Hid (∀ X,Below wc.heap.size wc X→Ring X bo r (lastV m (b+1)) (listV m b r)):=fun X hX=>(HX.out.below hX HX.out.lt).ring r1 r4 hfn.1 hfn.2
  clear hfn hcl hft HE
  go_upto_region 8 with (first | (go_at_call 28;refine (ro _).mono ?_;rintro e w8 ⟨rfl,hb8⟩;have k8:Below W.heap.size W w8:=HK.out.trans (hb8.mono zc);have t4:=(hb8.cell (p:=⟨bo,4,none⟩) cl').trans c4) | (go_at_call 29;refine (fl _).mono ?_;rintro e w9 ⟨rfl,hw9⟩;subst w9))
  have z8:=hb8.size
  have HR8:Hid (Ring w8.drew bo r (lastV m (b+1)) (listV m b r)):=HR.out _ hb8.drew
  have KC:Hid (Below W.heap.size W w8):=k8
  have K8:Hid (∀ X,Below w8.heap.size w8 X→X3 X (w.heap.size+1) (.int .i64 0) (.slice none 0 0) (.bool false)):=fun X hX=>RX.out X (KC.out.trans (hX.mono (by omega)))
  have cb:bo < w8.heap.size:=by omega
  clear hb8 k8 ro fl c0 c1' c2 c3 c4 c5 c6
  have RW:Hid (Calls Try.prog 30 #[.pointer (some ⟨bo,0,none⟩)] w8.drew fun e w'=>∃ sA cA,e=.returned (.slice sA (listV m b r).length cA)∧OwnN w' w8.heap.size (.slice sA (listV m b r).length cA) (listV m b r)∧Below w8.heap.size w8 w'∧w'.cell? ⟨bo,4,none⟩=some (.int .i64 r)∧X3 w' (w.heap.size+1) (.int .i64 0) (.slice none 0 0) (.bool false)):=(row_any bo r _ (listV m b r) _ HR8.out).mono fun e w' ⟨vA,he,oA,bA⟩=>by
   obtain ⟨sA,cA,eA⟩:=oA.sl
   subst eA
   have kA:Below w8.heap.size w8 w':=((Below.refl w8.heap.size w8).drew).trans bA
   exact ⟨sA,cA,he,oA,kA,(kA.cell (p:=⟨bo,4,none⟩) cb).trans t4,K8.out _ kA⟩
  generalize hLL:listV m b r=LL at RW
  have HLL:Hid (listV m b r=LL):=hLL
  clear hLL
  have nb1:¬ bo=w.heap.size+1:=by have:=KV.out.size;omega
  have nb2:¬ w.heap.size+1=bo:=by have:=KV.out.size;omega
  go_region_held3 (fun w'=>w'.cell? ⟨bo,4,none⟩=some (.int .i64 r)) (go_keep) (first | (go_at_call 30;with_reducible refine RW.out.mono ?_;rintro e wA ⟨sA,cA,rfl,oA,kA,tA,n0,n1,n2,n3,n4⟩;have OA:=hid_of oA;have BA:=hid_of kA;clear oA kA))
  go_wp2
  refine bodyPost_ret (v:=.tuple #[.agg #[.int .i64 r,.slice sA LL.length cA,.bool (lastV m (b+3)==1)],.bool true]) (by simp [results,Try.results9,go_sem,n0,n1,n2,n3,n4]) rfl ⟨.slice sA LL.length cA,by rw [HE2.out],?_,?_⟩
  ·rw [HE2.out]
   show OwnN _ _ _ (listV m b r)
   rw [HLL.out]
   have zq:=KC.out.size
   exact (((OA.out.set (a:=⟨w.heap.size+1,0,none⟩) (by show w.heap.size+1 < _;omega) _).set (a:=⟨w.heap.size+1,1,none⟩) (by show w.heap.size+1 < _;omega) _).set (a:=⟨w.heap.size+1,2,none⟩) (by show w.heap.size+1 < _;omega) _).low (by omega)
  ·have K:=KW.out.trans ((KC.out.trans (BA.out.mono (by have:=KC.out.size;omega))).mono (by omega))
   exact ((K.setCell (p:=⟨w.heap.size+1,0,none⟩) (by simp) _).setCell (p:=⟨w.heap.size+1,1,none⟩) (by simp) _).setCell (p:=⟨w.heap.size+1,2,none⟩) (by simp) _
end
section
set_option linter.unusedSimpArgs false
set_option linter.unusedVariables false
set_option maxRecDepth 100000
open Go.RowKit
set_option maxHeartbeats 400000 in
theorem sameInts_any (s s' : Option Addr) (l l' : List Int) (c c' : Nat) (w : World) (h : Ints w s l) (h' : Ints w s' l') (hb : l.length ≤ 1000000000) :
  Calls Try.prog 11 #[.slice s l.length c,.slice s' l'.length c'] w fun e w'=>e=.returned (.bool (decide (l=l')))∧∃ n,w'=w.drewN n:=by
 by_cases hn:l.length=l'.length
 ·have hne:((l.length:Int) !=(l'.length:Int))=false:=by simp;omega
  have HN:Hid (l.length=l'.length):=hn
  rcases h with rfl | ⟨g,o,rfl,hg,hc⟩
  ·have:l'=[]:=by cases l' with | nil=>rfl | cons a t=>simp at hn
   subst this
   clear hn
   go_enter Try.func11,Try.ntmps11
   go_wp2
   go_loop [5] (fun i=>i=.int .i64 0) (fun _=>0)
   case atStart=>rfl
   case round=>
    subst hrel
    go_wp2
    go_ret
    exact ⟨by simp,0,rfl⟩
  ·rcases h' with rfl | ⟨g',o',rfl,hg',hc'⟩
   ·have:l=[]:=by cases l with | nil=>rfl | cons a t=>simp at hn
    subst this
    clear hn
    go_enter Try.func11,Try.ntmps11
    go_wp2
    go_loop [5] (fun i=>i=.int .i64 0) (fun _=>0)
    case atStart=>rfl
    case round=>
     subst hrel
     go_wp2
     go_ret
     exact ⟨by simp,0,rfl⟩
   ·have HC:Hid (∀ i,i < l.length→w.cell? ⟨g,o+i,none⟩=some (.int .i64 (l.getD i 0))):=hc
    have HC':Hid (∀ i,i < l'.length→w.cell? ⟨g',o'+i,none⟩=some (.int .i64 (l'.getD i 0))):=hc'
    clear hn hc hc'
    go_enter Try.func11,Try.ntmps11
    go_wp2
    go_loopw [5] (fun i wr=>∃ k m:Nat,k≤l.length∧i=.int .i64 k∧(∀ j,j < k→l.getD j 0=l'.getD j 0)∧wr=w.drewN m) (fun i _=>l.length - (intOf i).toNat)
    case atStart=>exact ⟨0,0,Nat.zero_le _,rfl,fun j hj=>absurd hj (Nat.not_lt_zero _),rfl⟩
    case round=>
     obtain ⟨k,m,hk,rfl,hj,rfl⟩:=hrel
     have HJ:Hid (∀ j,j < k→l.getD j 0=l'.getD j 0):=hj
     clear hj
     by_cases hlt:k < l.length
     ·have hlt':k < l'.length:=by have:=HN.out;omega
      have e1:=HC.out k hlt
      have e2:=HC'.out k hlt'
      generalize hx:l.getD k 0=x at e1
      generalize hy:l'.getD k 0=y at e2
      have HX:Hid (l.getD k 0=x):=hx
      have HY:Hid (l'.getD k 0=y):=hy
      clear hx hy
      have b0:(0:Int)≤(k:Int):=by omega
      have b1:(k:Int) < (l.length:Int):=by omega
      have b2:(k:Int) < (l'.length:Int):=by omega
      by_cases hxy:x=y
      ·have hd:(x !=y)=false:=by simp [hxy]
       have HXY:Hid (x=y):=hxy
       clear hxy
       go_wp2_with fail
       go_quiet (fail)
       go_wp2
       go_roundw
       case rel=>
        refine ⟨k+1,_,by omega,by go_num,?_,rfl⟩
        intro j hj
        by_cases e:j < k
        ·exact HJ.out j e
        ·have:j=k:=by omega
         subst this
         rw [HX.out,HY.out,HXY.out]
       case measure=>simp [intOf];omega
      ·have hd:(x !=y)=true:=by simp [hxy]
       have HXY:Hid (¬ x=y):=hxy
       clear hxy
       go_wp2_with fail
       go_quiet (fail)
       go_wp2
       go_ret
       refine ⟨ret_bool' ?_,m+nq,World.drewN_drewN _ _ _⟩
       symm
       rw [decide_eq_false_iff_not]
       rintro rfl
       exact HXY.out (HX.out.symm.trans HY.out)
     ·go_wp2
      go_ret
      refine ⟨ret_bool' ?_,_,rfl⟩
      symm
      rw [decide_eq_true_iff]
      exact getD_eq_all l l' HN.out (fun j hj=>HJ.out j (by omega))
 ·have hne:((l.length:Int) !=(l'.length:Int))=true:=by simp;omega
  have HN:Hid (¬ l.length=l'.length):=hn
  clear hn
  go_enter Try.func11,Try.ntmps11
  go_wp2
  go_ret
  refine ⟨ret_bool' ?_,0,rfl⟩
  symm
  rw [decide_eq_false_iff_not]
  rintro rfl
  exact HN.out rfl
end
end Go.Proofs.Ytkhjhibigldcgaa
