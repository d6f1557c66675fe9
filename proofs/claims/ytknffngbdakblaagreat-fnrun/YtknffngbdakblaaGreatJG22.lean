/- The draw of FnRun: a program, a source as they are read, and how many rounds. Conditions: the code's bytes lie in memory. A source and the codes of its steps, side by side. No condition. Runs of picks in two parts, rounds in two parts. No condition. Lists of integers as they lie in memory, and what the laws' small functions make of them. Conditions: the lists are of at most a thousand million numbers. -/
import Derived.Test.YtknffngbdakblaaGreatJG00
import Derived.Test.YtknffngbdakblaaGreatJG16
import Derived.Test.YtknffngbdakblaaGreatJG17
import Derived.Test.YtknffngbdakblaaGreatJG19
import Derived.Test.YtknffngbdakblaaGreatJDraw2
import Derived.Test.YtknffngbdakblaaGreatJG01
import Derived.Test.YtknffngbdakblaaGreatJDrawLT
import Derived.Test.YtknffngbdakblaaGreatJG21
import Derived.Test.YtknffngbdakblaaGreatJStuckDraw
import Derived.Test.YtknffngbdakblaaGreatJG11
import Derived.Test.YtknffngbdakblaaGreatJG15
import Derived.Test.YtknffngbdakblaaGreatJG08
import Derived.Test.YtknffngbdakblaaGreatJG06
import Derived.Test.YtknffngbdakblaaGreatJG12
import Derived.Test.YtknffngbdakblaaGreatJG03
import Derived.Test.YtknffngbdakblaaGreatChecked
import Derived.WalkKit
import Derived.KernelRfl
import Derived.WalkSpells
import Derived.WalkLawsBesides
import Derived.Deep.QuietTactic
import Derived.BigQuiet
namespace Go.Proofs.YtknffngbdakblaaGreat
section
set_option linter.unusedSimpArgs false
set_option linter.unusedVariables false
set_option maxRecDepth 100000
open Go.RowKit Go.Deep
set_option maxRecDepth 100000 in
set_option maxHeartbeats 8000000 in
theorem drawFair_any (s : Option Addr) (n c : Nat) (w : World) (hb : Bytes w w.heap.size s n) (hn : n ≤ maxLen) :
  Calls Tryz.prog 10 #[.slice s n c] w fun e w'=>∃ (v0 v1 x1 x2 x3:Value) (who:Int),e=.returned (.tuple #[.agg #[v0,v1],.agg #[x1,x2,x3],.int .i64 who])∧(-1≤who∧who≤10)∧PgQ w' w.heap.size v0 v1∧SrZ w' w.heap.size x1 x2 x3∧Below w.heap.size w w':=by
 have HB:=hidR hb
 have HN:=hidR hn
 clear hb hn
 go_enter Tryz.func10,Tryz.ntmps10
 go_wp2_with fail
 obtain ⟨A,hA⟩:∃ A,(w.alloc (.cells #[.slice none 0 0,.slice none 0 0] 27)).alloc (.cells #[.slice none 0 0,.slice none 0 0,.slice none 0 0] 32)=A:=⟨_,rfl⟩
 have kA:Below w.heap.size w A:=by subst hA;exact ((Below.refl _ _).alloc (Nat.le_refl _) _).alloc (by simp) _
 have sA:A.heap.size=w.heap.size+2:=by subst hA;simp
 have rA:BoF (w.heap.size+1) A (.slice none 0 0) (.slice none 0 0) (.slice none 0 0):=by
  subst hA
  exact ⟨by simp [go_sem],by simp [go_sem],by simp [go_sem],fun j=>by simp [go_sem],by simp⟩
 have qA:BoP w.heap.size A (.slice none 0 0) (.slice none 0 0):=by
  subst hA
  exact ⟨by simp [go_sem],by simp [go_sem],fun j=>by simp [go_sem],by simp;omega⟩
 rw [hA]
 have SA:=hidR sA
 clear hA sA
 refine (new_cb s n c A (HB.out.up kA) HN.out).mono ?_
 rintro e w1 ⟨rfl,hc1,hb1,hs1⟩
 rw [SA.out] at hc1 hs1 hb1 ⊢
 have z1:w1.heap.size=w.heap.size+3:=by omega
 have R1:=hidR (rA.keep (hb1.block _ (Nat.lt_succ_self _)) (by rw [SA.out];omega))
 have Q1:=hidR (qA.keep (hb1.block _ (by omega)) (by rw [SA.out];omega))
 have K1:=hidR (kA.trans (hb1.mono (by omega)))
 have C1:=hidR hc1
 clear hc1 hb1 hs1 rA qA kA HB HN
 go_wp2_with fail
 refine (drawL_any (w.heap.size+2) s n c w1 C1.out).mono ?_
 rintro e w2 ⟨v0,v1,x1,x2,x3,rfl,hp,hs,hc2,hb2⟩
 have hp':=hp
 obtain ⟨-,p1,p2,a1,a2,pd,e0,e1,-,-,-⟩:=hp'
 subst e0 e1
 have hs':=hs
 obtain ⟨-,s1,s2,s3,c1,c2,c3,D,e2,e3,e4,-,-,-,-⟩:=hs'
 subst e2 e3 e4
 have R2:=hidR (R1.out.keep (hb2.block _ (by omega) (by omega)) hb2.size)
 have Q2:=hidR (Q1.out.keep (hb2.block _ (by omega) (by omega)) hb2.size)
 have K2:=hidR (K1.out.trans (hb2.below (by omega) (by omega)))
 have z2:=hb2.size
 have C2:=hidR hc2
 have S2:=hidR hs
 have P2:=hidR hp
 clear hc2 hb2 hs hp R1 Q1 K1 C1
 obtain ⟨V,hV⟩:∃ V,(w2.alloc (.cells #[.slice p1 pd.caps.length a1,.slice p2 pd.bods.length a2] 27)).alloc (.cells #[.slice s1 D.ths.length c1,.slice s2 D.chs.length c2,.slice s3 D.tr.length c3] 32)=V:=⟨_,rfl⟩
 have kV:Below w2.heap.size w2 V:=by subst hV;exact ((Below.refl _ _).alloc (Nat.le_refl _) _).alloc (by simp) _
 have bV:BoF (w2.heap.size+1) V (.slice s1 D.ths.length c1) (.slice s2 D.chs.length c2) (.slice s3 D.tr.length c3):=by
  subst hV
  exact ⟨by simp [go_sem],by simp [go_sem],by simp [go_sem],fun j=>by simp [go_sem],by simp⟩
 have qV:BoP w2.heap.size V (.slice p1 pd.caps.length a1) (.slice p2 pd.bods.length a2):=by
  subst hV
  exact ⟨by simp [go_sem],by simp [go_sem],fun j=>by simp [go_sem],by simp;omega⟩
 have HV:=hidR hV
 have R3:=hidR (R2.out.keep (kV.block _ (by omega)) kV.size)
 have Q3:=hidR (Q2.out.keep (kV.block _ (by omega)) kV.size)
 have K3:=hidR (K2.out.trans (kV.mono (by omega)))
 have C3:=hidR (C2.out.keep kV)
 have S3:=hidR (S2.out.keep (fun k _ hk=>kV.block k hk) kV.size)
 have P3:=hidR (P2.out.keep (fun k _ hk=>kV.block k hk) kV.size)
 have B3:=hidR bV
 have D3:=hidR qV
 have z3:=bV.z
 clear kV bV qV hV R2 Q2 K2 C2 S2 P2
 go_wp2_with fail
 try rw [HV.out]
 clear HV
 obtain ⟨m0,m1,m2,mf,mz⟩:=B3.out
 obtain ⟨k0,k1,kf,kz⟩:=D3.out
 go_region_law (refine step_call 25 #[.pointer (some ⟨w.heap.size+2,0,none⟩),.int .i64 12] (by rfl) _ _ (by rfl) (by simp [go_sem]) ent_below ?_;refine (below_cb (w.heap.size+2) s n c 12 V.drew (C3.out.keep (Below.drew (Below.refl _ _))) (by omega) (by omega)).mono ?_;rintro e w5 ⟨z,rfl,hz0,hz5,hc5,hb5'⟩;have hb5:But (w.heap.size+2) V w5:=(But.of_below (Below.drew (Below.refl _ _))).trans hb5';clear hb5';obtain ⟨m0',m1',m2',mf',mz'⟩:=B3.out.keep (w1:=w5) (hb5.block _ mz (by omega)) hb5.size;obtain ⟨k0',k1',kf',kz'⟩:=D3.out.keep (w1:=w5) (hb5.block _ kz (by omega)) hb5.size;obtain ⟨g0,g1,g2,gf,gz⟩:=R3.out.keep (w1:=w5) (hb5.block _ (by omega) (by omega)) hb5.size;obtain ⟨f0,f1,ff,fz⟩:=Q3.out.keep (w1:=w5) (hb5.block _ (by omega) (by omega)) hb5.size;have wz:IntKind.i64.wrap (z - 1)=z - 1:=IntWalk.i64_in _ ⟨by omega,by omega⟩;refine ⟨_,rfl,?_⟩)
 all_goals
  have K5x:=hidR (K3.out.trans (hb5.below (B:=w.heap.size) (by omega) (by omega)))
  have S5x:=hidR (S3.out.keep (V':=w5) (fun k a b=>hb5.block k b (by omega)) hb5.size)
  have P5x:=hidR (P3.out.keep (V':=w5) (fun k a b=>hb5.block k b (by omega)) hb5.size)
  clear m0' m1' m2' mf' m0 m1 m2 mf k0' k1' kf' k0 k1 kf R3 Q3 B3 D3 C3 K3 S3 P3
  go_wp2
  refine bodyPost_ret (v:=.tuple #[.agg #[.slice p1 pd.caps.length a1,.slice p2 pd.bods.length a2],.agg #[.slice s1 D.ths.length c1,.slice s2 D.chs.length c2,.slice s3 D.tr.length c3],.int .i64 (z - 1)]) (by simp [results,Tryz.results10,go_sem,g0,g1,g2,f0,f1]) rfl ⟨_,_,_,_,_,_,rfl,⟨by omega,by omega⟩,?_,?_,?_⟩
  ·exact (P5x.out.keep (fun k a b=>heap5 _ _ _ _ _ _ _ _ k (by omega) (by omega)) (by simp)).low (by omega)
  ·exact (S5x.out.toZ.keep (fun k a b=>heap5 _ _ _ _ _ _ _ _ k (by omega) (by omega)) (by simp)).low (by omega)
  ·exact ((((K5x.out.setCell (p:=⟨w.heap.size,0,none⟩) (Nat.le_refl _) _).setCell (p:=⟨w.heap.size,1,none⟩) (Nat.le_refl _) _).setCell (p:=⟨w.heap.size+1,0,none⟩) (by show w.heap.size≤w.heap.size+1;omega) _).setCell (p:=⟨w.heap.size+1,1,none⟩) (by show w.heap.size≤w.heap.size+1;omega) _).setCell (p:=⟨w.heap.size+1,2,none⟩) (by show w.heap.size≤w.heap.size+1;omega) _
end
section
set_option linter.unusedSimpArgs false
set_option linter.unusedVariables false
set_option maxRecDepth 100000
open Go.RowKit
structure RunC (w V:World) (base S:Nat) (p0 p1 q1 q2 q3:Value) (D:SD) (u:Value) (C:List Int):Prop where
 b:Br V w.heap.size p0 p1 q1 q2 q3
 k:Below w.heap.size w V
 o:∃ v1 v2 v3 L1 L2,OwnS V base v1 v2 v3 L1 L2 D∧BoF S V v1 v2 v3∧BxS V S∧(∀ q,u.ownBlock=some q→¬ HitS v1 v2 v3 L1 L2 q)
 n:OwnN V base u C
 m:base≤V.heap.size
theorem RunI.cod {w V:World} {base S:Nat} {p0 p1 q1 q2 q3:Value} {D:SD} (h:RunI w V base S p0 p1 q1 q2 q3 D) {u:Value} (hn:OwnN V base u []) (hu:∀ q,u.ownBlock=some q→∀ v1 v2 v3 L1 L2,OwnS V base v1 v2 v3 L1 L2 D→¬ HitS v1 v2 v3 L1 L2 q):RunC w V base S p0 p1 q1 q2 q3 D u []:=by
 obtain ⟨v1,v2,v3,L1,L2,o,s,bs⟩:=h.o
 exact ⟨h.b,h.k,⟨v1,v2,v3,L1,L2,o,s,bs,fun q e=>hu q e _ _ _ _ _ o⟩,hn,h.m⟩
theorem intNe:¬ (3:TypeId)=32:=by decide
theorem RunC.turn {w V V':World} {base S:Nat} {p0 p1 q1 q2 q3 v1 v2 v3 u:Value} {L1 L2:List (Rec×Value)} {D D':SD} {C:List Int} {s4:Option Addr} {n4 c4:Nat} {M1 M2:List (Rec×Value)} (h:RunC w V base S p0 p1 q1 q2 q3 D u C) (hz:w.heap.size+1+1 < base) (hsep:∀ q,u.ownBlock=some q→¬ HitS v1 v2 v3 L1 L2 q) (hbs:BxS V S) (t:TurnQ V V' S base v1 v2 v3 L1 L2 D' s4 n4 c4 M1 M2):RunC w V' base S p0 p1 q1 q2 q3 D' u C:=by
 have hlt:∀ q,u.ownBlock=some q→q < V.heap.size:=fun q e=>(World.ownsRow.lt h.n _ e).2
 refine ⟨h.b.below t.b hz,h.k.trans (t.b.mono (by omega)),⟨_,_,_,M1,M2,t.o,t.s,t.bs,fun q e hh=>?_⟩,ownKeep' h.n (fun q e=>t.f q (hlt q e) (fun e2=>?_) (hsep q e)),Nat.le_trans h.m t.b.size⟩
 ·rcases t.h q hh with h1 | h1
  ·exact hsep q e h1
  ·have:=hlt q e;omega
 ·subst e2
  exact own_bxS h.n intNe hbs e
theorem RunC.keep {w V V':World} {base S:Nat} {p0 p1 q1 q2 q3 u:Value} {D:SD} {C:List Int} (h:RunC w V base S p0 p1 q1 q2 q3 D u C) (hb:Below V.heap.size V V'):RunC w V' base S p0 p1 q1 q2 q3 D u C:=by
 obtain ⟨v1,v2,v3,L1,L2,o,s,bs,sep⟩:=h.o
 exact ⟨h.b.below hb h.b.zz,h.k.trans (hb.mono h.k.size),⟨v1,v2,v3,L1,L2,o.keep (fun q _ hq=>hb.block q hq),s.below hb s.z,bs.same (hb.block _ s.z),sep⟩,h.n.keep (fun q _ hq=>hb.block q hq),Nat.le_trans h.m hb.size⟩
/- one code more -/
theorem RunC.app {w V V':World} {base S g cap n:Nat} {p0 p1 q1 q2 q3 u:Value} {D:SD} {C C':List Int} (h:RunC w V base S p0 p1 q1 q2 q3 D u C) (hz:w.heap.size+1+1 < base) (hn:OwnN V' base (.slice (some ⟨g,0,none⟩) n cap) C') (kk:Below base V V') (f:∀ k,k < V.heap.size→u.ownBlock≠some k→V'.heap[k]? =V.heap[k]? ∧k≠g):RunC w V' base S p0 p1 q1 q2 q3 D (.slice (some ⟨g,0,none⟩) n cap) C':=by
 obtain ⟨v1,v2,v3,L1,L2,o,s,bs,sep⟩:=h.o
 have no:∀ k,HitS v1 v2 v3 L1 L2 k→u.ownBlock≠some k:=fun k hk e=>sep k e hk
 have eS:=(f S s.z (own_bxS h.n intNe bs)).1
 refine ⟨h.b.below kk hz,h.k.trans (kk.mono (by omega)),⟨v1,v2,v3,L1,L2,o.keepB (fun k hk=>(f k (o.hit hk).2 (no k hk)).1),s.keep eS kk.size,bs.same eS,fun q e hh=>?_⟩,hn,Nat.le_trans h.m kk.size⟩
 simp only [Value.ownBlock,Option.some.injEq] at e
 exact (f q (o.hit hh).2 (no q hh)).2 e.symm
/- another source put into the box -/
theorem RunC.put {w V:World} {base S:Nat} {p0 p1 q1 q2 q3 v1 v2 v3 u:Value} {L1 L2:List (Rec×Value)} {D D':SD} {C:List Int} (h:RunC w V base S p0 p1 q1 q2 q3 D u C) (hz:w.heap.size+1+1 < base) (hS:base≤S) (o:OwnS V base v1 v2 v3 L1 L2 D') (sep:∀ q,u.ownBlock=some q→¬ HitS v1 v2 v3 L1 L2 q):RunC w (((V.setCell ⟨S,0,none⟩ v1).setCell ⟨S,1,none⟩ v2).setCell ⟨S,2,none⟩ v3) base S p0 p1 q1 q2 q3 D' u C:=by
 obtain ⟨u1,u2,u3,M1,M2,-,s,bs,-⟩:=h.o
 have kk:Below base V (((V.setCell ⟨S,0,none⟩ v1).setCell ⟨S,1,none⟩ v2).setCell ⟨S,2,none⟩ v3):=by
  refine Below.setCell (Below.setCell (Below.setCell (Below.refl _ _) ?_ _) ?_ _) ?_ _<;>exact hS
 have nS:=own_bxS h.n intNe bs
 have st:∀ (X:World) (j:Nat) (v:Value),OwnN X base u C→OwnN (X.setCell ⟨S,j,none⟩ v) base u C:=fun X j v q=>ownKeep' q (fun k e=>Below.heap_setCell _ _ _ _ (fun e2=>nS (by rw [e,e2])))
 exact ⟨h.b.below kk hz,h.k.trans (kk.mono (by omega)),⟨v1,v2,v3,L1,L2,((o.offB bs).offB bs.set).offB bs.set.set,((s.set0 _).set1 _).set2 _,bs.set.set.set,sep⟩,st _ _ _ (st _ _ _ (st _ _ _ h.n)),Nat.le_trans h.m kk.size⟩
/- what SourceRun answers -/
def SRunQ (w:World) (D:SD) (C:List Int) (e:Ending) (w':World):Prop:=∃ s1 c1 s2 c2 s3 c3 s4 c4 L1 L2,e=.returned (.tuple #[.agg #[.slice s1 D.ths.length c1,.slice s2 D.chs.length c2,.slice s3 D.tr.length c3],.slice s4 C.length c4])∧OwnS w' w.heap.size (.slice s1 D.ths.length c1) (.slice s2 D.chs.length c2) (.slice s3 D.tr.length c3) L1 L2 D∧OwnN w' w.heap.size (.slice s4 C.length c4) C∧(∀ q,(Value.slice s4 C.length c4).ownBlock=some q→¬ HitS (.slice s1 D.ths.length c1) (.slice s2 D.chs.length c2) (.slice s3 D.tr.length c3) L1 L2 q)∧Below w.heap.size w w'
noncomputable def runSb (p:PD) (d:SD) (ks:List Int):SD:=if ks.length≤4000∧srcB p d=true then pkD p d ks else d
noncomputable def runCb (p:PD) (d:SD) (ks:List Int):List Int:=if ks.length≤4000∧srcB p d=true then pkC p d ks else []
theorem runSb_fits {p:PD} {d:SD} (hf:SFits d) (ks:List Int):SFits (runSb p d ks):=by
 unfold runSb
 split
 ·rename_i h
  exact pkD_fits ks h.2 hf
 ·exact hf
theorem runCb_len (p:PD) (d:SD) (ks:List Int):(runCb p d ks).length≤4000:=by
 unfold runCb
 split
 ·rename_i h
  rw [pkC_len]
  exact h.1
 ·exact Nat.zero_le _
theorem IntsR.get {w wr:World} {lo hi B:Nat} {s:Option Addr} {l:List Int} (h:IntsR w lo hi s l) (hB:hi≤B) (hb:Below B w wr) {k:Nat} (hk:k < l.length):∃ g o,s=some ⟨g,o,none⟩∧g < B∧wr.cell? ⟨g,o+k,none⟩=some (.int .i64 (l.getD k 0)):=by
 rcases h with rfl | ⟨g,o,e,h1,h2,h3⟩
 ·simp at hk
 ·exact ⟨g,o,e,by omega,(hb.cell (p:=⟨g,o+k,none⟩) (by show g < B;omega)).trans (h3 k hk)⟩
end
section
set_option linter.unusedSimpArgs false
set_option linter.unusedVariables false
set_option maxRecDepth 100000
open Go.RowKit
theorem pkD_app (p:PD):∀ (l m:List Int) (d:SD),pkD p d (l++m)=pkD p (pkD p d l) m
 | [],_,_=>rfl
 | x::r,m,d=>pkD_app p r m (stepS p d x)
theorem run_parts {p : PD} {d : SD} {ks : List Int} (hl : ks.length ≤ 4000) (hs : srcB p d = true) (k : Nat) :
  runSb p (runSb p d (ks.take k)) (ks.drop k)=runSb p d ks∧(runCb p d (ks.take k)).length+(runCb p (runSb p d (ks.take k)) (ks.drop k)).length=(runCb p d ks).length:=by
 have e1:runSb p d (ks.take k)=pkD p d (ks.take k):=by
  unfold runSb
  rw [if_pos ⟨by rw [List.length_take];omega,hs⟩]
 have h1:=pkD_ok (p:=p) (ks.take k) hs
 rw [e1]
 have hd:(ks.drop k).length≤4000:=by rw [List.length_drop];omega
 have ht:(ks.take k).length≤4000:=by rw [List.length_take];omega
 unfold runSb runCb
 rw [if_pos ⟨hd,h1⟩,if_pos ⟨hl,hs⟩,if_pos ⟨ht,hs⟩,if_pos ⟨hd,h1⟩,if_pos ⟨hl,hs⟩,pkC_len,pkC_len,pkC_len]
 refine ⟨?_,?_⟩
 ·rw [← pkD_app,List.take_append_drop]
 ·rw [List.length_take,List.length_drop]
  omega
/- no codes: the source as it was -/
theorem run_none {p:PD} {d:SD} {ks:List Int} (h:(runCb p d ks).length=0):runSb p d ks=d:=by
 unfold runCb at h
 unfold runSb
 by_cases hc:ks.length≤4000∧srcB p d=true
 ·rw [if_pos hc] at h ⊢
  rw [pkC_len] at h
  rw [List.eq_nil_of_length_eq_zero h]
  rfl
 ·rw [if_neg hc]
theorem run_some {p:PD} {d:SD} {ks:List Int} (h:¬ (runCb p d ks).length=0):ks.length≤4000∧srcB p d=true:=by
 unfold runCb at h
 by_cases hc:ks.length≤4000∧srcB p d=true
 ·exact hc
 ·rw [if_neg hc] at h
  exact absurd rfl h
def sh (m:Nat) (x:SD×Nat):SD×Nat:=(x.1,x.2+m)
theorem go1_sh (p:PD) (x:SD×Nat) (m k:Nat):go1 p (sh m x) k=sh m (go1 p x k):=by
 unfold go1 sh
 dsimp only
 congr 1
 split<;>omega
theorem goN_sh (p:PD) (x:SD×Nat) (m:Nat):∀ k,goN p (sh m x) k=sh m (goN p x k)
 | 0=>rfl
 | k+1=>by
  show go1 p (goN p (sh m x) k) k=sh m (go1 p (goN p x k) k)
  rw [goN_sh p x m k,go1_sh]
theorem rdN_sh (p:PD) (n:Nat) (x:SD×Nat) (m:Nat):∀ r,rdN p n (sh m x) r=sh m (rdN p n x r)
 | 0=>rfl
 | r+1=>by
  show goN p (rdN p n (sh m x) r) n=sh m (goN p (rdN p n x r) n)
  rw [rdN_sh p n x m r,goN_sh]
theorem rdN_add (p:PD) (n:Nat) (x:SD×Nat) (a:Nat):∀ b,rdN p n x (a+b)=rdN p n (rdN p n x a) b
 | 0=>rfl
 | b+1=>by
  show goN p (rdN p n x (a+b)) n=goN p (rdN p n (rdN p n x a) b) n
  rw [rdN_add p n x a b]
theorem fair_parts {p : PD} {d : SD} {r : Int} (hs : srcB p d = true) (h1 : 1 < r) (h2 : r ≤ 10) :
  fairSb p (fairSb p d 1) (r - 1)=fairSb p d r∧fairKb p d 1+fairKb p (fairSb p d 1) (r - 1)=fairKb p d r:=by
 have e1:fairSb p d 1=(rdN p p.bods.length (d,0) 1).1:=by
  unfold fairSb fairX
  rw [if_pos hs]
  rfl
 have ok:=rdN_ok (p:=p) (n:=p.bods.length) (x:=(d,0)) hs 1
 rw [e1]
 unfold fairSb fairKb fairX
 rw [if_pos ok,if_pos hs,if_pos hs,if_pos ok,if_pos hs]
 have er:rounds r=1+rounds (r - 1):=by unfold rounds;omega
 have e:rdN p p.bods.length (d,0) (rounds r)=sh (rdN p p.bods.length (d,0) 1).2 (rdN p p.bods.length ((rdN p p.bods.length (d,0) 1).1,0) (rounds (r - 1))):=by
  rw [er,rdN_add,← rdN_sh]
  congr 1
  unfold sh
  simp
 rw [e,show rounds 1=1 from rfl]
 unfold sh
 dsimp only
 exact ⟨rfl,by omega⟩
end
section
set_option linter.unusedSimpArgs false
set_option linter.unusedVariables false
set_option maxRecDepth 100000
open Go.RowKit
set_option maxHeartbeats 400000 in
theorem sameInts_any (s s' : Option Addr) (l l' : List Int) (c c' : Nat) (w : World) (h : Ints w s l) (h' : Ints w s' l') (hb : l.length ≤ 1000000000) :
  Calls Tryz.prog 9 #[.slice s l.length c,.slice s' l'.length c'] w fun e w'=>e=.returned (.bool (decide (l=l')))∧∃ n,w'=w.drewN n:=by
 by_cases hn:l.length=l'.length
 ·have hne:((l.length:Int) !=(l'.length:Int))=false:=by simp;omega
  have HN:Hid (l.length=l'.length):=hn
  rcases h with rfl | ⟨g,o,rfl,hg,hc⟩
  ·have:l'=[]:=by cases l' with | nil=>rfl | cons a t=>simp at hn
   subst this
   clear hn
   go_enter Tryz.func9,Tryz.ntmps9
   go_wp2
   go_loop [5] (fun i=>i=.int .i64 0) (fun _=>0)
   case atStart=>rfl
   case round=>
    subst hrel
    go_wp2
    go_ret
    exact ⟨by simp,0,rfl⟩
  ·rcases h' with rfl | ⟨g',o',rfl,hg',hc'⟩
   ·have:l=[]:=by cases l with | nil=>rfl | cons a t=>simp at hn
    subst this
    clear hn
    go_enter Tryz.func9,Tryz.ntmps9
    go_wp2
    go_loop [5] (fun i=>i=.int .i64 0) (fun _=>0)
    case atStart=>rfl
    case round=>
     subst hrel
     go_wp2
     go_ret
     exact ⟨by simp,0,rfl⟩
   ·have HC:Hid (∀ i,i < l.length→w.cell? ⟨g,o+i,none⟩=some (.int .i64 (l.getD i 0))):=hc
    have HC':Hid (∀ i,i < l'.length→w.cell? ⟨g',o'+i,none⟩=some (.int .i64 (l'.getD i 0))):=hc'
    clear hn hc hc'
    go_enter Tryz.func9,Tryz.ntmps9
    go_wp2
    go_loopw [5] (fun i wr=>∃ k m:Nat,k≤l.length∧i=.int .i64 k∧(∀ j,j < k→l.getD j 0=l'.getD j 0)∧wr=w.drewN m) (fun i _=>l.length - (intOf i).toNat)
    case atStart=>exact ⟨0,0,Nat.zero_le _,rfl,fun j hj=>absurd hj (Nat.not_lt_zero _),rfl⟩
    case round=>
     obtain ⟨k,m,hk,rfl,hj,rfl⟩:=hrel
     have HJ:Hid (∀ j,j < k→l.getD j 0=l'.getD j 0):=hj
     clear hj
     by_cases hlt:k < l.length
     ·have hlt':k < l'.length:=by have:=HN.out;omega
      have e1:=HC.out k hlt
      have e2:=HC'.out k hlt'
      generalize hx:l.getD k 0=x at e1
      generalize hy:l'.getD k 0=y at e2
      have HX:Hid (l.getD k 0=x):=hx
      have HY:Hid (l'.getD k 0=y):=hy
      clear hx hy
      have b0:(0:Int)≤(k:Int):=by omega
      have b1:(k:Int) < (l.length:Int):=by omega
      have b2:(k:Int) < (l'.length:Int):=by omega
      by_cases hxy:x=y
      ·have hd:(x !=y)=false:=by simp [hxy]
       have HXY:Hid (x=y):=hxy
       clear hxy
       go_wp2_with fail
       go_quiet (fail)
       go_wp2
       go_roundw
       case rel=>
        refine ⟨k+1,_,by omega,by go_num,?_,rfl⟩
        intro j hj
        by_cases e:j < k
        ·exact HJ.out j e
        ·have:j=k:=by omega
         subst this
         rw [HX.out,HY.out,HXY.out]
       case measure=>simp [intOf];omega
      ·have hd:(x !=y)=true:=by simp [hxy]
       have HXY:Hid (¬ x=y):=hxy
       clear hxy
       go_wp2_with fail
       go_quiet (fail)
       go_wp2
       go_ret
       refine ⟨ret_bool' ?_,m+nq,World.drewN_drewN _ _ _⟩
       symm
       rw [decide_eq_false_iff_not]
       rintro rfl
       exact HXY.out (HX.out.symm.trans HY.out)
     ·go_wp2
      go_ret
      refine ⟨ret_bool' ?_,_,rfl⟩
      symm
      rw [decide_eq_true_iff]
      exact getD_eq_all l l' HN.out (fun j hj=>HJ.out j (by omega))
 ·have hne:((l.length:Int) !=(l'.length:Int))=true:=by simp;omega
  have HN:Hid (¬ l.length=l'.length):=hn
  clear hn
  go_enter Tryz.func9,Tryz.ntmps9
  go_wp2
  go_ret
  refine ⟨ret_bool' ?_,0,rfl⟩
  symm
  rw [decide_eq_false_iff_not]
  rintro rfl
  exact HN.out rfl
end
end Go.Proofs.YtknffngbdakblaaGreat
