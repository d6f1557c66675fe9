/- settle, walked. No condition. A turn of a thread, whole. Conditions: program and source are right. -/
import Derived.Test.YtknffngbdakblaaGreatJG08
import Derived.Test.YtknffngbdakblaaGreatJG13
import Derived.Test.YtknffngbdakblaaGreatJStepIm2
import Derived.Test.YtknffngbdakblaaGreatJG00
import Derived.Test.YtknffngbdakblaaGreatJLeaves
import Derived.Test.YtknffngbdakblaaGreatJG14
import Derived.ChangeKeysEq
import Derived.Test.YtknffngbdakblaaGreatJG07
import Derived.Test.YtknffngbdakblaaGreatJG12
import Derived.Test.YtknffngbdakblaaGreatJG06
import Derived.Test.YtknffngbdakblaaGreatJG01
import Derived.Test.YtknffngbdakblaaGreatJG03
import Derived.Test.YtknffngbdakblaaGreatJG04
import Derived.Test.YtknffngbdakblaaGreatJBody
import Derived.Test.YtknffngbdakblaaGreatJG11
namespace Go.Proofs.YtknffngbdakblaaGreat
section
set_option linter.unusedSimpArgs false
set_option linter.unusedVariables false
set_option maxRecDepth 100000
open Go.RowKit
theorem eqR (a b c d a' b' c' d':Int) (w:World):(Op.equal 87 (.agg #[.int .i64 a,.int .i64 b,.int .i64 c,.int .i64 d]) (.agg #[.int .i64 a',.int .i64 b',.int .i64 c',.int .i64 d'])).run Tryz.prog w=.ok (a==a'&&(b==b'&&(c==c'&&d==d'))) w:=by
 have hi:∃ i,Tryz.prog.info? 3=some i:=⟨_,rfl⟩
 obtain ⟨i,hi⟩:=hi
 show (Op.equalIn (9999+1) _ _ _).run Tryz.prog w=_
 rw [run_equalIn_array w 9999 _ _ Tryz.underlying87 hi]
 have e:∀ (x y:Int),(Op.equalIn 9999 3 (.int .i64 x) (.int .i64 y)).run Tryz.prog w=.ok (x==y) w:=fun x y=>run_equalIn_int w 9998 _ _ _ x y Tryz.underlying3
 have er:List.range 4=[0,1,2,3]:=rfl
 rw [er]
 have hc:Tryz.prog.cellsOf 3=1:=rfl
 rw [hc]
 have p:∀ (x0 x1 x2 x3:Value),(part 3 #[x0,x1,x2,x3] 0).run Tryz.prog w=.ok x0 w∧(part 3 #[x0,x1,x2,x3] 1).run Tryz.prog w=.ok x1 w∧(part 3 #[x0,x1,x2,x3] 2).run Tryz.prog w=.ok x2 w∧(part 3 #[x0,x1,x2,x3] 3).run Tryz.prog w=.ok x3 w:=fun x0 x1 x2 x3=>⟨by simp [part,go_sem],by simp [part,go_sem],by simp [part,go_sem],by simp [part,go_sem]⟩
 simp only [Op.eqItems,Sem.run_bind,Nat.zero_mul,Nat.one_mul,Nat.mul_one,(p _ _ _ _).1,(p _ _ _ _).2.1,(p _ _ _ _).2.2.1,(p _ _ _ _).2.2.2,Result.andThen_ok,e]
 by_cases h0:a=a'<;>by_cases h1:b=b'<;>by_cases h2:c=c'<;>by_cases h3:d=d'<;>simp [Op.eqItems,Sem.run_bind,(p _ _ _ _).1,(p _ _ _ _).2.1,(p _ _ _ _).2.2.1,(p _ _ _ _).2.2.2,Result.andThen_ok,e,h0,h1,h2,h3]
theorem SetQ.drew {w w2:World} {S base g1 c1 n3 c3 k:Nat} {s3:Option Addr} {v2:Value} {L1 L2 M:List (Rec×Value)} {d:SD} {T:TD} (h:SetQ w w2 S base g1 c1 n3 c3 k s3 v2 L1 L2 M d T):SetQ w w2.drew S base g1 c1 n3 c3 k s3 v2 L1 L2 M d T:=
 ⟨h.o.keepB (fun _ _=>rfl),h.s.keep rfl (Nat.le_refl _),h.bs.same rfl,h.h,h.f,h.b.drew⟩
theorem gR (x y:Operand) (xs ys:Array Value) (w:World):(eqGuard .neq 87 x y (.agg xs) (.agg ys)).run Tryz.prog w=.ok () w:=by
 simp [eqGuard,go_sem]
set_option maxHeartbeats 8000000 in
theorem settle_any (b S base n3 c3 g1 c1 k nb : Nat) (s3 : Option Addr) (v2 : Value) (L1 L2 : List (Rec × Value)) (d : SD) (who pc nx st : Int) (rg : List Int) (t : TD) (code : Int) (w : World) (h : Rd w b S base (.slice (some ⟨g1, 0, none⟩) d.ths.length c1) v2 (.slice s3 n3 c3) L1 L2 d who pc nx st rg) (ht : d.ths[k]? = some t) (h4 : t.regs.length = 4) (hkl : k < 1000) :
  Calls Tryz.prog 52 #[.pointer (some ⟨b,0,none⟩),.pointer (some ⟨g1,k * 3,none⟩),.int .i64 code,.int .i64 nb] w fun e w'=>e=.returned (.tuple #[])∧∃ M,SetQ w w' S base g1 c1 n3 c3 k s3 v2 L1 L2 M d (if code=2∨¬ (0≤nx∧nx < (nb:Int)) then ⟨t.pc,rg,2⟩ else ⟨nx,rg,st⟩):=by
 have hk:k < d.ths.length:=(List.getElem?_eq_some_iff.1 ht).1
 obtain ⟨g9,c9,y,e9,hy,ey,hg0,hg1,k0,k1,k2,kf⟩:=h.o.thread ht
 injection e9 with h1 h2 h3
 injection h1 with h1
 injection h1 with h1
 subst h1 h3
 clear h2
 obtain ⟨gr,cr,y2,ar,zr,rr,fr⟩:=h.o.regs hy ey h4
 rw [y2] at k1
 have ON:OwnN w base (.slice (some ⟨gr,0,none⟩) 4 cr) t.regs:=by have q:=h.o.t.inn k y hy;rw [ey,y2] at q;exact q
 obtain ⟨x0,x1,x2,x3,rest,hcur⟩:=own_cur ON h4
 obtain ⟨tpc,trg,tst⟩:=t
 simp only at h4 rr k0 k2 ON
 obtain ⟨r0,r1,r2,r3,rfl⟩:∃ a b c d,trg=[a,b,c,d]:=by
  match trg,h4 with
  | [a,b,c,d],_=>exact ⟨a,b,c,d,rfl⟩
 obtain ⟨a0,a1,a2,a3,rfl⟩:∃ a b c d,rg=[a,b,c,d]:=by
  match rg,h.t.l with
  | [a,b,c,d],_=>exact ⟨a,b,c,d,rfl⟩
 have RG:Hid (∀ X,Below w.heap.size w X→Calls Tryz.prog 50 #[.slice (some ⟨gr,0,none⟩) 4 cr] X fun e w'=>e=.returned (.agg #[.int .i64 r0,.int .i64 r1,.int .i64 r2,.int .i64 r3])∧Below X.heap.size X w'):=fun X hX=>regsOf_any (some ⟨gr,0,none⟩) cr gr (gr+1) [r0,r1,r2,r3] X (.inr ⟨gr,0,rfl,Nat.le_refl _,Nat.lt_succ_self _,fun i hi=>by rw [Nat.zero_add];exact (hX.cell (p:=⟨gr,i,none⟩) zr).trans (rr i hi)⟩) (by have:=hX.size;omega) rfl
 have HH:=hidW h
 have HT:=hidW ht
 have HY:=hidW hy
 have HY2:=hidW y2
 have HCUR:=hidW hcur
 have K1:=hidW k1
 have hz:=h.t.z
 have m0:w.cell? ⟨b,5,none⟩=some (.int .i64 a0):=h.t.r 0 (by omega)
 have m1:w.cell? ⟨b,6,none⟩=some (.int .i64 a1):=h.t.r 1 (by omega)
 have m2:w.cell? ⟨b,7,none⟩=some (.int .i64 a2):=h.t.r 2 (by omega)
 have m3:w.cell? ⟨b,8,none⟩=some (.int .i64 a3):=h.t.r 3 (by omega)
 obtain ⟨T,hTT⟩:∃ T:TD,(if code=2∨¬ (0≤nx∧nx < (nb:Int)) then (⟨tpc,[a0,a1,a2,a3],2⟩:TD) else ⟨nx,[a0,a1,a2,a3],st⟩)=T:=⟨_,rfl⟩
 rw [hTT]
 have HTT:=hidW hTT
 clear hTT
 have E4:Hid (∀ x y:Int,x=y→(x==y)=true):=fun x y e=>by simp [e]
 have hne:=ext_ne w
 have u0:=Ext.fit m0 hz
 have u1:=Ext.fit m1 hz
 have u2:=Ext.fit m2 hz
 have u3:=Ext.fit m3 hz
 have u4:=Ext.fit k1 hg1
 clear h hy y2 hcur ey ON m0 m1 m2 m3 k0 k1 k2 kf rr fr
 obtain ⟨bv,hbv⟩:∃ bv,(a0==r0&&(a1==r1&&(a2==r2&&a3==r3)))=bv:=⟨_,rfl⟩
 have EQ4:=hidW (fun w=>eqR a0 a1 a2 a3 r0 r1 r2 r3 w)
 rw [hbv] at EQ4
 cases bv
 ·clear hbv
  go_enter Tryz.func52,Tryz.ntmps52
  go_upto_region 0 with fail
  refine regionExt w (by kernel_rfl) (by kernel_rfl) ?_
  repeat (go_big_quiet_step ((rename_i X;go_at_call 50;refine Calls.mono (RG.out _ X.b) ?_;rintro e w3 ⟨rfl,hb3⟩;exact ⟨rfl,X.on hb3⟩)))
  refine Go.BigFrame.wpQuiet_want (by rfl) (fun K hK=>⟨.bool true,fun w' _=>?_,hK _ ?_⟩)
  ·have q:=EQ4.out w'
   simp [Oper.quietAt,execOp,gR,binOp,q,Oper.quietUpon,go_sem]
  refine wpQuiet_nil ?_
  clear hne u0 u1 u2 u3 u4 EQ4
  rintro w3 ⟨X3,rfl⟩
  obtain ⟨V2,hX3⟩:∃ V2,X3.w=V2:=⟨_,rfl⟩
  have hb3:=X3.b
  rw [hX3] at hb3 ⊢
  clear hX3 X3
  have B3:=hidW hb3
  have k1:=(hb3.cell (p:=⟨g1,k * 3+1,none⟩) hg1).trans K1.out
  have zg1:g1 < V2.heap.size:=by have:=hb3.size;omega
  have hne:=ext_ne V2
  have u4:=Ext.fit k1 zg1
  clear hb3 k1
  go_wp2_with fail
  refine regionSuf V2 8 (by decide) (by kernel_rfl) (by kernel_rfl) (by kernel_rfl) (by kernel_rfl) ?_
  dsimp only [List.take,List.drop]
  repeat (go_big_quiet_step (fail))
  refine wpQuiet_nil ?_
  clear hne u4
  rintro w4 ⟨X4,rfl⟩
  obtain ⟨V3,hX4⟩:∃ V3,X4.w=V3:=⟨_,rfl⟩
  have hb4:=X4.b
  rw [hX4] at hb4 ⊢
  clear hX4 X4
  have B4:=hidW (B3.out.trans (hb4.mono B3.out.size))
  clear hb4
  have HG4:=(B4.out.block gr zr).trans HCUR.out
  refine app_cpy4 rfl _ _ rfl V3 gr (x0::x1::x2::x3::rest) HG4 _ _ b 5 rfl rfl [a0,a1,a2,a3] rfl (fun i hi=>(B4.out.cell (p:=⟨b,5+i,none⟩) hz).trans (HH.out.t.r i hi)) (by simp) ?_
  intro V5 q1 q2 q3 q4 q5 q6
  obtain ⟨LL,hm⟩:=mid_ne HH.out HT.out rfl HY.out HY2.out B4.out ar HG4 q1 q2 q3 q4 q5 q6
  have HM:=hidW hm
  have nbr:b≠gr:=fun e=>HH.out.o.hitU HH.out.bt (by rw [e];exact .inl (.inr ⟨k,y,HY.out,by rw [HY2.out];rfl⟩))
  have HBTU:=hidW (HH.out.bt.same ((q2 b nbr).trans (B4.out.block b hz)))
  clear hm q1 q2 q3 q4 q5 q6 HG4
  have hkb:=HM.out.o
  obtain ⟨g9,c9,y9,e9,-,-,-,zg,l0,-,l2,lf⟩:=HM.out.o.thread (show (⟨d.ths.set k ⟨tpc,[a0,a1,a2,a3],tst⟩,d.chs,d.tr⟩:SD).ths[k]? =some ⟨tpc,[a0,a1,a2,a3],tst⟩ from List.getElem?_set_self hk)
  injection e9 with h1 h2 h3
  injection h1 with h1
  injection h1 with h1
  subst h1 h3
  clear h2 hkb
  obtain ⟨-,-,-,p3,p4,-,pf,pz,-⟩:=HM.out.t
  by_cases h2c:code=2
  ·have HTE:=hidW (show (⟨tpc,[a0,a1,a2,a3],2⟩:TD)=T from by rw [← HTT.out,if_pos (.inl h2c)])
   obtain ⟨M,q⟩:=mid_fault HM.out hk hg0
   have Q9:=hidW q
   have hee:(code==2)=true:=by simp [h2c]
   clear q h2c
   go_wp2
   refine bodyPost_ret (v:=.tuple #[]) (by simp [results,Tryz.results52,go_sem]) rfl ⟨rfl,M,?_⟩
   rw [← HTE.out]
   exact Q9.out
  have hee:(code==2)=false:=by simp [h2c]
  by_cases hin:0≤nx∧nx < (nb:Int)
  ·have HTE:=hidW (show (⟨nx,[a0,a1,a2,a3],st⟩:TD)=T from by rw [← HTT.out,if_neg (fun q=>by rcases q with q | q;exact h2c q;exact q hin)])
   obtain ⟨M,q⟩:=mid_done HM.out hk hg0
   have Q9:=hidW q
   have ONE:=hidW (show Plain.oneB nx nb=true from by unfold Plain.oneB;simp;omega)
   clear q h2c hin
   go_wp2_with fail
   refine (isOneOf_any _ _ _).mono ?_
   rintro e w9 ⟨rfl,hw9⟩
   rw [hw9,ONE.out]
   clear hw9 w9
   go_wp2_with fail
   have ngb:¬ g1=b:=fun e=>HM.out.o.hitU (HBTU.out) (by rw [← e];exact .inl (.inl rfl))
   have nbg:¬ b=g1:=fun e=>ngb e.symm
   go_region_held3 (fun w'=>w'.cell? ⟨b,3,none⟩=some (.int .i64 nx)∧w'.cell? ⟨b,4,none⟩=some (.int .i64 st)) (go_keep) (fail)
   all_goals
    go_wp2
    exact ⟨rfl,.tuple #[],by simp [results,Tryz.results52,go_sem],rfl,M,by rw [← HTE.out];first | exact Q9.out | exact Q9.out.drew⟩
  ·have HTE:=hidW (show (⟨tpc,[a0,a1,a2,a3],2⟩:TD)=T from by rw [← HTT.out,if_pos (.inr hin)])
   obtain ⟨M,q⟩:=mid_fault HM.out hk hg0
   have Q9:=hidW q
   have ONE:=hidW (show Plain.oneB nx nb=false from by unfold Plain.oneB;simp;omega)
   clear q h2c hin
   go_wp2_with fail
   refine (isOneOf_any _ _ _).mono ?_
   rintro e w9 ⟨rfl,hw9⟩
   rw [hw9,ONE.out]
   clear hw9 w9
   go_wp2
   refine bodyPost_ret (v:=.tuple #[]) (by simp [results,Tryz.results52,go_sem]) rfl ⟨rfl,M,?_⟩
   rw [← HTE.out]
   exact Q9.out
 ·have e4:a0=r0∧a1=r1∧a2=r2∧a3=r3:=by simpa using hbv
  obtain ⟨rfl,rfl,rfl,rfl⟩:=e4
  clear hbv
  go_enter Tryz.func52,Tryz.ntmps52
  go_upto_region 0 with fail
  refine regionExt w (by kernel_rfl) (by kernel_rfl) ?_
  repeat (go_big_quiet_step ((rename_i X;go_at_call 50;refine Calls.mono (RG.out _ X.b) ?_;rintro e w3 ⟨rfl,hb3⟩;exact ⟨rfl,X.on hb3⟩)))
  refine Go.BigFrame.wpQuiet_want (by rfl) (fun K hK=>⟨.bool false,fun w' _=>?_,hK _ ?_⟩)
  ·have q:=EQ4.out w'
   simp [Oper.quietAt,execOp,gR,binOp,q,Oper.quietUpon,go_sem]
  refine wpQuiet_nil ?_
  clear hne u0 u1 u2 u3 u4 EQ4
  rintro w3 ⟨X3,rfl⟩
  obtain ⟨V2,hX3⟩:∃ V2,X3.w=V2:=⟨_,rfl⟩
  have hb3:=X3.b
  rw [hX3] at hb3 ⊢
  clear hX3 X3
  have HM:=hidW (mid_eq HH.out HT.out rfl hb3)
  have HBTU:=hidW (HH.out.bt.same (hb3.block b hz))
  clear hb3
  have hkb:=HM.out.o
  obtain ⟨g9,c9,y9,e9,-,-,-,zg,l0,-,l2,lf⟩:=HM.out.o.thread (show (⟨d.ths.set k ⟨tpc,[a0,a1,a2,a3],tst⟩,d.chs,d.tr⟩:SD).ths[k]? =some ⟨tpc,[a0,a1,a2,a3],tst⟩ from List.getElem?_set_self hk)
  injection e9 with h1 h2 h3
  injection h1 with h1
  injection h1 with h1
  subst h1 h3
  clear h2 hkb
  obtain ⟨-,-,-,p3,p4,-,pf,pz,-⟩:=HM.out.t
  by_cases h2c:code=2
  ·have HTE:=hidW (show (⟨tpc,[a0,a1,a2,a3],2⟩:TD)=T from by rw [← HTT.out,if_pos (.inl h2c)])
   obtain ⟨M,q⟩:=mid_fault HM.out hk hg0
   have Q9:=hidW q
   have hee:(code==2)=true:=by simp [h2c]
   clear q h2c
   go_wp2
   refine bodyPost_ret (v:=.tuple #[]) (by simp [results,Tryz.results52,go_sem]) rfl ⟨rfl,M,?_⟩
   rw [← HTE.out]
   exact Q9.out
  have hee:(code==2)=false:=by simp [h2c]
  by_cases hin:0≤nx∧nx < (nb:Int)
  ·have HTE:=hidW (show (⟨nx,[a0,a1,a2,a3],st⟩:TD)=T from by rw [← HTT.out,if_neg (fun q=>by rcases q with q | q;exact h2c q;exact q hin)])
   obtain ⟨M,q⟩:=mid_done HM.out hk hg0
   have Q9:=hidW q
   have ONE:=hidW (show Plain.oneB nx nb=true from by unfold Plain.oneB;simp;omega)
   clear q h2c hin
   go_wp2_with fail
   refine (isOneOf_any _ _ _).mono ?_
   rintro e w9 ⟨rfl,hw9⟩
   rw [hw9,ONE.out]
   clear hw9 w9
   go_wp2_with fail
   have ngb:¬ g1=b:=fun e=>HM.out.o.hitU (HBTU.out) (by rw [← e];exact .inl (.inl rfl))
   have nbg:¬ b=g1:=fun e=>ngb e.symm
   go_region_held3 (fun w'=>w'.cell? ⟨b,3,none⟩=some (.int .i64 nx)∧w'.cell? ⟨b,4,none⟩=some (.int .i64 st)) (go_keep) (fail)
   all_goals
    go_wp2
    exact ⟨rfl,.tuple #[],by simp [results,Tryz.results52,go_sem],rfl,M,by rw [← HTE.out];first | exact Q9.out | exact Q9.out.drew⟩
  ·have HTE:=hidW (show (⟨tpc,[a0,a1,a2,a3],2⟩:TD)=T from by rw [← HTT.out,if_pos (.inr hin)])
   obtain ⟨M,q⟩:=mid_fault HM.out hk hg0
   have Q9:=hidW q
   have ONE:=hidW (show Plain.oneB nx nb=false from by unfold Plain.oneB;simp;omega)
   clear q h2c hin
   go_wp2_with fail
   refine (isOneOf_any _ _ _).mono ?_
   rintro e w9 ⟨rfl,hw9⟩
   rw [hw9,ONE.out]
   clear hw9 w9
   go_wp2
   refine bodyPost_ret (v:=.tuple #[]) (by simp [results,Tryz.results52,go_sem]) rfl ⟨rfl,M,?_⟩
   rw [← HTE.out]
   exact Q9.out
end
section
set_option linter.unusedSimpArgs false
set_option linter.unusedVariables false
set_option maxRecDepth 100000
open Go.RowKit
/- the box of a turn, new -/
theorem tn_new (w:World) (S:Nat) (who pc nx a0 a1 a2 a3:Int):Tn (w.alloc (.cells #[.pointer (some ⟨S,0,none⟩),.int .i64 who,.int .i64 pc,.int .i64 nx,.int .i64 0,.int .i64 a0,.int .i64 a1,.int .i64 a2,.int .i64 a3] 90)) w.heap.size S who pc nx 0 [a0,a1,a2,a3]∧BxU (w.alloc (.cells #[.pointer (some ⟨S,0,none⟩),.int .i64 who,.int .i64 pc,.int .i64 nx,.int .i64 0,.int .i64 a0,.int .i64 a1,.int .i64 a2,.int .i64 a3] 90)) w.heap.size:=by
 refine ⟨⟨by simp [go_sem],by simp [go_sem],by simp [go_sem],by simp [go_sem],by simp [go_sem],fun i hi=>?_,fun j=>by simp [go_sem],by simp,rfl⟩,⟨_,_,heap_alloc_new _ _⟩⟩
 match i,hi with
 | 0,_=>simp [go_sem]
 | 1,_=>simp [go_sem]
 | 2,_=>simp [go_sem]
 | 3,_=>simp [go_sem]
def BoxT9 (X:World):Option Nat→Prop
 | none=>True
 | some q=>X.heap[q]? =some (.cells #[.pointer none,.int .i64 0,.int .i64 0,.int .i64 0,.int .i64 0,.int .i64 0,.int .i64 0,.int .i64 0,.int .i64 0] 90 (0,0))
theorem boxTS {X:World} {q:Nat} (h:BoxT9 X (some q)):X.heap[q]? =some (.cells #[.pointer none,.int .i64 0,.int .i64 0,.int .i64 0,.int .i64 0,.int .i64 0,.int .i64 0,.int .i64 0,.int .i64 0] 90 (0,0)):=h
theorem BoxT9.keep {X Y:World} {p:Option Nat} (h:BoxT9 X p) (hb:Below X.heap.size X Y):BoxT9 Y p:=by
 cases p with
 | none=>trivial
 | some p=>exact (hb.block p (Array.getElem?_eq_some_iff.1 h).1).trans h
theorem boxT0 (X:World):BoxT9 (X.alloc (.cells #[.pointer none,.int .i64 0,.int .i64 0,.int .i64 0,.int .i64 0,.int .i64 0,.int .i64 0,.int .i64 0,.int .i64 0] 90)) (some X.heap.size):=heap_alloc_new _ _
theorem boxTD {X:World} {p:Option Nat} (h:BoxT9 X p):BoxT9 X.drew p:=by
 cases p with
 | none=>trivial
 | some p=>exact h
theorem boxTN (X:World):BoxT9 X none:=trivial
theorem box9 {X:World} {q:Nat} (h:X.heap[q]? =some (.cells #[.pointer none,.int .i64 0,.int .i64 0,.int .i64 0,.int .i64 0,.int .i64 0,.int .i64 0,.int .i64 0,.int .i64 0] 90 (0,0))):X.cell? ⟨q,0,none⟩=some (.pointer none)∧(∀ j,1≤j→j≤8→X.cell? ⟨q,j,none⟩=some (.int .i64 0))∧(∀ j,X.frozen? ⟨q,j,none⟩=false)∧q < X.heap.size:=by
 refine ⟨by rw [cell_blk h];rfl,fun j h1 h2=>?_,fun j=>?_,(Array.getElem?_eq_some_iff.1 h).1⟩
 ·rw [cell_blk h]
  match j,h1,h2 with
  | 1,_,_=>rfl
  | 2,_,_=>rfl
  | 3,_,_=>rfl
  | 4,_,_=>rfl
  | 5,_,_=>rfl
  | 6,_,_=>rfl
  | 7,_,_=>rfl
  | 8,_,_=>rfl
 ·simp [World.frozen?,h]
theorem heap9 {wM:World} {bo S:Nat} {who pc nx a0 a1 a2 a3:Int} (h:wM.heap[bo]? =some (.cells #[.pointer none,.int .i64 0,.int .i64 0,.int .i64 0,.int .i64 0,.int .i64 0,.int .i64 0,.int .i64 0,.int .i64 0] 90 (0,0))):(((((((((wM.setCell ⟨bo,0,none⟩ (.pointer (some ⟨S,0,none⟩))).setCell ⟨bo,1,none⟩ (.int .i64 who)).setCell ⟨bo,2,none⟩ (.int .i64 pc)).setCell ⟨bo,3,none⟩ (.int .i64 nx)).setCell ⟨bo,4,none⟩ (.int .i64 0)).setCell ⟨bo,5,none⟩ (.int .i64 a0)).setCell ⟨bo,6,none⟩ (.int .i64 a1)).setCell ⟨bo,7,none⟩ (.int .i64 a2)).setCell ⟨bo,8,none⟩ (.int .i64 a3)).heap[bo]? =some (.cells #[.pointer (some ⟨S,0,none⟩),.int .i64 who,.int .i64 pc,.int .i64 nx,.int .i64 0,.int .i64 a0,.int .i64 a1,.int .i64 a2,.int .i64 a3] 90 (0,0)):=by
 rw [heap_setS (heap_setS (heap_setS (heap_setS (heap_setS (heap_setS (heap_setS (heap_setS (heap_setS h))))))))]
 simp only [List.setIfInBounds_toArray,List.set_cons_zero,List.set_cons_succ]
theorem tn_of {w:World} {bo S:Nat} {who pc nx a0 a1 a2 a3:Int} (h:w.heap[bo]? =some (.cells #[.pointer (some ⟨S,0,none⟩),.int .i64 who,.int .i64 pc,.int .i64 nx,.int .i64 0,.int .i64 a0,.int .i64 a1,.int .i64 a2,.int .i64 a3] 90 (0,0))):Tn w bo S who pc nx 0 [a0,a1,a2,a3]∧BxU w bo:=by
 refine ⟨⟨by rw [cell_blk h];rfl,by rw [cell_blk h];rfl,by rw [cell_blk h];rfl,by rw [cell_blk h];rfl,by rw [cell_blk h];rfl,fun i hi=>?_,fun j=>by simp [World.frozen?,h],(Array.getElem?_eq_some_iff.1 h).1,rfl⟩,⟨_,_,h⟩⟩
 rw [cell_blk h]
 match i,hi with
 | 0,_=>rfl
 | 1,_=>rfl
 | 2,_=>rfl
 | 3,_=>rfl
def CutT (W:World) (S:Nat) (who pc nx:Int) (rg:List Int) (s9:Value) (wc:World):Prop:=∃ bo,s9=.pointer (some ⟨bo,0,none⟩)∧W.heap.size≤bo∧Tn wc bo S who pc nx 0 rg∧BxU wc bo∧Below W.heap.size W wc
theorem cutT_new {W wM:World} {S:Nat} {who pc nx a0 a1 a2 a3:Int} (kk:Below W.heap.size W wM):CutT W S who pc nx [a0,a1,a2,a3] (.pointer (some ⟨wM.heap.size,0,none⟩)) (wM.alloc (.cells #[.pointer (some ⟨S,0,none⟩),.int .i64 who,.int .i64 pc,.int .i64 nx,.int .i64 0,.int .i64 a0,.int .i64 a1,.int .i64 a2,.int .i64 a3] 90)):=
 ⟨wM.heap.size,rfl,kk.size,(tn_new wM S who pc nx a0 a1 a2 a3).1,(tn_new wM S who pc nx a0 a1 a2 a3).2,kk.alloc kk.size _⟩
theorem cutT_set {W wM:World} {S bo:Nat} {who pc nx a0 a1 a2 a3:Int} (b:wM.heap[bo]? =some (.cells #[.pointer none,.int .i64 0,.int .i64 0,.int .i64 0,.int .i64 0,.int .i64 0,.int .i64 0,.int .i64 0,.int .i64 0] 90 (0,0))) (hbo:W.heap.size≤bo) (kk:Below W.heap.size W wM):CutT W S who pc nx [a0,a1,a2,a3] (.pointer (some ⟨bo,0,none⟩)) (((((((((wM.setCell ⟨bo,0,none⟩ (.pointer (some ⟨S,0,none⟩))).setCell ⟨bo,1,none⟩ (.int .i64 who)).setCell ⟨bo,2,none⟩ (.int .i64 pc)).setCell ⟨bo,3,none⟩ (.int .i64 nx)).setCell ⟨bo,4,none⟩ (.int .i64 0)).setCell ⟨bo,5,none⟩ (.int .i64 a0)).setCell ⟨bo,6,none⟩ (.int .i64 a1)).setCell ⟨bo,7,none⟩ (.int .i64 a2)).setCell ⟨bo,8,none⟩ (.int .i64 a3)):=by
 refine ⟨bo,rfl,hbo,(tn_of (heap9 b)).1,(tn_of (heap9 b)).2,?_⟩
 repeat' (first | with_reducible exact kk | with_reducible refine Below.setCell ?_ hbo _)
/- what a turn answers -/
structure TurnQ (w w':World) (S base:Nat) (v1 v2 v3:Value) (L1 L2:List (Rec×Value)) (D:SD) (s4:Option Addr) (n4 c4:Nat) (M1 M2:List (Rec×Value)):Prop where
 o:OwnS w' base v1 v2 (.slice s4 n4 c4) M1 M2 D
 s:BoF S w' v1 v2 (.slice s4 n4 c4)
 bs:BxS w' S
 h:∀ q,HitS v1 v2 (.slice s4 n4 c4) M1 M2 q→HitS v1 v2 v3 L1 L2 q∨w.heap.size≤q
 f:∀ q,q < w.heap.size→q≠S→¬ HitS v1 v2 v3 L1 L2 q→w'.heap[q]? =w.heap[q]?
 b:Below base w w'
def TurnP (w:World) (S base:Nat) (v1 v2 v3:Value) (L1 L2:List (Rec×Value)) (K:Int) (D:SD) (e:Ending) (w':World):Prop:=e=.returned (.int .i64 K)∧∃ s4 n4 c4 M1 M2,TurnQ w w' S base v1 v2 v3 L1 L2 D s4 n4 c4 M1 M2
theorem turn_idle {w w':World} {S base n3 c3:Nat} {s3:Option Addr} {v1 v2:Value} {L1 L2:List (Rec×Value)} {d:SD} {K:Int} (hO:OwnS w base v1 v2 (.slice s3 n3 c3) L1 L2 d) (hS:BoF S w v1 v2 (.slice s3 n3 c3)) (hbs:BxS w S) (hb:base≤w.heap.size) (k:Below w.heap.size w w'):TurnP w S base v1 v2 (.slice s3 n3 c3) L1 L2 K d (.returned (.int .i64 K)) w':=
 ⟨rfl,s3,n3,c3,L1,L2,hO.keep (fun b _ h=>k.block b h),hS.below k hS.z,hbs.same (k.block S hS.z),fun _ h=>.inl h,fun q h1 _ _=>k.block q h1,k.mono hb⟩
set_option maxHeartbeats 2000000 in
theorem turn_none (p1 p2 : Option Addr) (a1 a2 lo hi base S : Nat) (p : PD) (v1 v2 v3 : Value) (L1 L2 : List (Rec × Value)) (d : SD) (who : Int) (w : World) (hP : ProgR w lo hi p1 p2 p) (hB : hi ≤ base) (hO : OwnS w base v1 v2 v3 L1 L2 d) (hS : BoF S w v1 v2 v3) (hbs : BxS w S) (hb : base ≤ w.heap.size) (hR : Right p d) (hSb : base ≤ S) (hw : ¬ (0 ≤ who ∧ who < (d.ths.length : Int))) :
  Calls Tryz.prog 29 #[.agg #[.slice p1 p.caps.length a1,.slice p2 p.bods.length a2],.pointer (some ⟨S,0,none⟩),.int .i64 who] w fun e w'=>TurnP w S base v1 v2 v3 L1 L2 2 d e w':=by
 obtain ⟨s1,c1,e1⟩:=ownSl hO.t.row
 obtain ⟨s3,c3,e3⟩:=ownSl hO.n
 rw [hO.l1] at e1
 subst e1 e3
 obtain ⟨W,hW,bx,kW,zW⟩:=Bo2.new w (.slice p1 p.caps.length a1) (.slice p2 p.bods.length a2) 27
 have HWW:=hidW hW
 have KW:=hidW kW
 have HO:=hidW hO
 have HS:=hidW hS
 have HBS:=hidW hbs
 have ONE:=hidW (show Plain.oneB who d.ths.length=false from by unfold Plain.oneB;simp;omega)
 have c0:=(kW.cell (p:=⟨S,0,none⟩) hS.z).trans hS.c0
 have zS:S < W.heap.size:=by have:=hS.z;omega
 clear hW kW hO hS hbs bx zW hw
 go_enter Tryz.func29,Tryz.ntmps29
 go_upto_region 1 with fail
 rw [HWW.out]
 go_wp2_with fail
 refine (isOneOf_any _ _ _).mono ?_
 rintro e w9 ⟨rfl,hw9⟩
 rw [hw9,ONE.out]
 clear hw9 w9
 go_wp2
 go_ret
 exact turn_idle HO.out HS.out HBS.out hb KW.out
set_option maxHeartbeats 4000000 in
theorem turn_over (p1 p2 : Option Addr) (a1 a2 lo hi base S : Nat) (p : PD) (v1 v2 v3 : Value) (L1 L2 : List (Rec × Value)) (d : SD) (k : Nat) (t : TD) (w : World) (hP : ProgR w lo hi p1 p2 p) (hB : hi ≤ base) (hO : OwnS w base v1 v2 v3 L1 L2 d) (hS : BoF S w v1 v2 v3) (hbs : BxS w S) (hb : base ≤ w.heap.size) (hR : Right p d) (hSb : base ≤ S) (ht : d.ths[k]? = some t) (hst : ¬ t.st = 0) :
  Calls Tryz.prog 29 #[.agg #[.slice p1 p.caps.length a1,.slice p2 p.bods.length a2],.pointer (some ⟨S,0,none⟩),.int .i64 k] w fun e w'=>TurnP w S base v1 v2 v3 L1 L2 3 d e w':=by
 obtain ⟨q,g1,c1,gr,cr,gb,ob,gi,oi,cb,nb,s2,s3,c2,c3,y,O⟩:=hO.open hP hB hb hR ht
 have HOU:=hidW O.ou
 have hbl:=hR.bd k O.kb
 have hpb:=hR.pb
 have HNL:=hidW hR.nl
 have HCH:=hidW hR.cl
 have HTL:=hidW hR.tl
 have HR:=hidW hR
 obtain ⟨x,hx⟩:∃ x,insOf p d k=x:=⟨_,rfl⟩
 rw [hx] at O HOU
 have HIX:=hidW hx
 clear hx
 obtain ⟨e1,e2,e3,ep,hy,y1,y2,hq,nq,kl,kb,hbn,t0,t1,t2,b0,⟨x0,x1,x2,x3,x4⟩,rr,f1,fr,z1,zr,zb,zi,i1,ir,ib,ii,n1,hok,-,h4⟩:=O
 subst e1 e2 e3 ep
 rw [hbn] at hbl
 have HBN:=hidW hbn
 unfold insX Plain.insB at hok
 rw [decide_eq_true_eq] at hok
 have HOK:=hidW hok
 obtain ⟨o,r,a,bb,n⟩:=x
 simp only at hok x0 x1 x2 x3 x4 HOU HOK
 obtain ⟨pc,rg,st⟩:=t
 simp only at hq h4 rr t0 t2
 subst hq
 have i0:(0:Int)≤(k:Int):=by omega
 have j1:(k:Int) < (d.ths.length:Int):=by omega
 have j2:(k:Int) < (p.bods.length:Int):=by omega
 have j3:(0:Int)≤(q:Int):=by omega
 have j4:(q:Int) < (nb:Int):=by omega
 have w1:IntKind.i64.wrap ((q:Int)+1)=(q:Int)+1:=Go.IntWalk.i64_in _ (by omega)
 have ONE:=hidW (show Plain.oneB (k:Int) d.ths.length=true from by unfold Plain.oneB;simp;omega)
 obtain ⟨W,hW,bx,kW,zW⟩:=Bo2.new w (.slice p1 p.caps.length a1) (.slice (some ⟨gb,ob,none⟩) p.bods.length a2) 27
 have HWW:=hidW hW
 have KW:=hidW kW
 have HO:=hidW hO
 have HP:=hidW hP
 have HS:=hidW hS
 have HBS:=hidW hbs
 have HBX:=hidW bx
 have HT:=hidW ht
 have HY:=hidW hy
 have HY1:=hidW y1
 have HY2:=hidW y2
 have H4:=hidW h4
 have hzS:=hS.z
 have m1:=bx.c1
 have wz:w.heap.size < W.heap.size:=by omega
 have C:∀ g j,g < w.heap.size→W.cell? ⟨g,j,none⟩=w.cell? ⟨g,j,none⟩:=fun g j hg=>kW.cell (p:=⟨g,j,none⟩) hg
 have v0:=(C S 0 hzS).trans hS.c0
 have v2':=(C S 2 hzS).trans hS.c2
 have t0':=(C g1 _ z1).trans t0
 have t1':=(C g1 _ z1).trans t1
 have t2':=(C g1 _ z1).trans t2
 have b0':=(C gb _ zb).trans b0
 have x0':=(C gi _ zi).trans x0
 have x1':=(C gi _ zi).trans x1
 have x2':=(C gi _ zi).trans x2
 have x3':=(C gi _ zi).trans x3
 have x4':=(C gi _ zi).trans x4
 have zS:S < W.heap.size:=by omega
 have zg1:g1 < W.heap.size:=by omega
 have zgb:gb < W.heap.size:=by omega
 have zgi:gi < W.heap.size:=by omega
 clear hW kW hO hP hS hbs bx ht hy y1 y2 hok hR hbn t0 t1 t2 b0 x0 x1 x2 x3 x4 C zW h4
 have hne:=extP_ne W (fun _=>False)
 have u0:=ExtP.fit (E:=fun _=>False) m1 wz (fun h=>h)
 have u1:=ExtP.fit (E:=fun _=>False) b0' zgb (fun h=>h)
 have u2:=ExtP.fit (E:=fun _=>False) t0' zg1 (fun h=>h)
 have u3:=ExtP.fit (E:=fun _=>False) x0' zgi (fun h=>h)
 have u4:=ExtP.fit (E:=fun _=>False) x1' zgi (fun h=>h)
 have u5:=ExtP.fit (E:=fun _=>False) x2' zgi (fun h=>h)
 have u6:=ExtP.fit (E:=fun _=>False) x3' zgi (fun h=>h)
 have u7:=ExtP.fit (E:=fun _=>False) x4' zgi (fun h=>h)
 go_enter Tryz.func29,Tryz.ntmps29
 go_upto_region 1 with fail
 rw [HWW.out]
 go_wp2_with fail
 refine (isOneOf_any _ _ _).mono ?_
 rintro e w9 ⟨rfl,hw9⟩
 rw [hw9,ONE.out]
 clear hw9 w9
 go_upto_region 4 with fail
 refine regionMix W (CP W (fun _=>False)) 11 12 (by kernel_rfl) (by kernel_rfl) (fun _ _ d _ _ h=>by cases d<;>exact h) (CP.drew _ _) ?_
 unfold CP
 dsimp only [List.take,List.drop]
 repeat (go_big_quiet_step (fail))
 refine wpQuiet_nil ?_
 clear hne u0 u1 u2 u3 u4 u5 u6 u7
 unfold wpListC
 go_wp2
 refine And.intro (fun _ hc=>CP.below hc ((Below.refl _ _).alloc (Nat.le_refl _) _)) ?_
 refine listC_late _ _ _ _ (by decide) ?_
 obtain ⟨V,hV,hXB,kV,zV⟩:=Xb.new W.drew (.int .i64 o) (.int .i64 r) (.int .i64 a) (.int .i64 bb) (.int .i64 n) 85
 have kV':Below W.heap.size W V:=(Below.drew (Below.refl _ _)).trans kV
 have HVV:=hidW hV
 have KV:=hidW (KW.out.trans (kV'.mono (by omega)))
 have HXB:=hidW (show Xb V W.heap.size (.int .i64 o) (.int .i64 r) (.int .i64 a) (.int .i64 bb) (.int .i64 n) from hXB)
 have hst':(st !=0)=true:=by simp;exact hst
 clear kV kV' hXB hV
 go_wp2
 go_ret
 refine turn_idle HO.out HS.out HBS.out hb ?_
 have e:=HVV.out
 have kk:=KV.out
 rw [← e] at kk
 exact kk
set_option maxHeartbeats 4000000 in
theorem turn_full (p1 p2 : Option Addr) (a1 a2 lo hi base S : Nat) (p : PD) (v1 v2 v3 : Value) (L1 L2 : List (Rec × Value)) (d : SD) (k : Nat) (t : TD) (w : World) (hP : ProgR w lo hi p1 p2 p) (hB : hi ≤ base) (hO : OwnS w base v1 v2 v3 L1 L2 d) (hS : BoF S w v1 v2 v3) (hbs : BxS w S) (hb : base ≤ w.heap.size) (hR : Right p d) (hSb : base ≤ S) (ht : d.ths[k]? = some t) (hst : t.st = 0) (hf : (insOf p d k).o = 10 ∧ d.tr.length = 4000) :
  Calls Tryz.prog 29 #[.agg #[.slice p1 p.caps.length a1,.slice p2 p.bods.length a2],.pointer (some ⟨S,0,none⟩),.int .i64 k] w fun e w'=>TurnP w S base v1 v2 v3 L1 L2 3 d e w':=by
 obtain ⟨q,g1,c1,gr,cr,gb,ob,gi,oi,cb,nb,s2,s3,c2,c3,y,O⟩:=hO.open hP hB hb hR ht
 have HOU:=hidW O.ou
 have hbl:=hR.bd k O.kb
 have hpb:=hR.pb
 have HNL:=hidW hR.nl
 have HCH:=hidW hR.cl
 have HTL:=hidW hR.tl
 have HR:=hidW hR
 obtain ⟨x,hx⟩:∃ x,insOf p d k=x:=⟨_,rfl⟩
 rw [hx] at O HOU
 have HIX:=hidW hx
 clear hx
 obtain ⟨e1,e2,e3,ep,hy,y1,y2,hq,nq,kl,kb,hbn,t0,t1,t2,b0,⟨x0,x1,x2,x3,x4⟩,rr,f1,fr,z1,zr,zb,zi,i1,ir,ib,ii,n1,hok,-,h4⟩:=O
 subst e1 e2 e3 ep
 rw [hbn] at hbl
 have HBN:=hidW hbn
 unfold insX Plain.insB at hok
 rw [decide_eq_true_eq] at hok
 have HOK:=hidW hok
 obtain ⟨o,r,a,bb,n⟩:=x
 simp only at hok x0 x1 x2 x3 x4 HOU HOK
 obtain ⟨pc,rg,st⟩:=t
 simp only at hq h4 rr t0 t2
 subst hq
 have i0:(0:Int)≤(k:Int):=by omega
 have j1:(k:Int) < (d.ths.length:Int):=by omega
 have j2:(k:Int) < (p.bods.length:Int):=by omega
 have j3:(0:Int)≤(q:Int):=by omega
 have j4:(q:Int) < (nb:Int):=by omega
 have w1:IntKind.i64.wrap ((q:Int)+1)=(q:Int)+1:=Go.IntWalk.i64_in _ (by omega)
 have ONE:=hidW (show Plain.oneB (k:Int) d.ths.length=true from by unfold Plain.oneB;simp;omega)
 obtain ⟨W,hW,bx,kW,zW⟩:=Bo2.new w (.slice p1 p.caps.length a1) (.slice (some ⟨gb,ob,none⟩) p.bods.length a2) 27
 have HWW:=hidW hW
 have KW:=hidW kW
 have HO:=hidW hO
 have HP:=hidW hP
 have HS:=hidW hS
 have HBS:=hidW hbs
 have HBX:=hidW bx
 have HT:=hidW ht
 have HY:=hidW hy
 have HY1:=hidW y1
 have HY2:=hidW y2
 have H4:=hidW h4
 have hzS:=hS.z
 have m1:=bx.c1
 have wz:w.heap.size < W.heap.size:=by omega
 have C:∀ g j,g < w.heap.size→W.cell? ⟨g,j,none⟩=w.cell? ⟨g,j,none⟩:=fun g j hg=>kW.cell (p:=⟨g,j,none⟩) hg
 have v0:=(C S 0 hzS).trans hS.c0
 have v2':=(C S 2 hzS).trans hS.c2
 have t0':=(C g1 _ z1).trans t0
 have t1':=(C g1 _ z1).trans t1
 have t2':=(C g1 _ z1).trans t2
 have b0':=(C gb _ zb).trans b0
 have x0':=(C gi _ zi).trans x0
 have x1':=(C gi _ zi).trans x1
 have x2':=(C gi _ zi).trans x2
 have x3':=(C gi _ zi).trans x3
 have x4':=(C gi _ zi).trans x4
 have zS:S < W.heap.size:=by omega
 have zg1:g1 < W.heap.size:=by omega
 have zgb:gb < W.heap.size:=by omega
 have zgi:gi < W.heap.size:=by omega
 clear hW kW hO hP hS hbs bx ht hy y1 y2 hok hR hbn t0 t1 t2 b0 x0 x1 x2 x3 x4 C zW h4
 have hne:=extP_ne W (fun _=>False)
 have u0:=ExtP.fit (E:=fun _=>False) m1 wz (fun h=>h)
 have u1:=ExtP.fit (E:=fun _=>False) b0' zgb (fun h=>h)
 have u2:=ExtP.fit (E:=fun _=>False) t0' zg1 (fun h=>h)
 have u3:=ExtP.fit (E:=fun _=>False) x0' zgi (fun h=>h)
 have u4:=ExtP.fit (E:=fun _=>False) x1' zgi (fun h=>h)
 have u5:=ExtP.fit (E:=fun _=>False) x2' zgi (fun h=>h)
 have u6:=ExtP.fit (E:=fun _=>False) x3' zgi (fun h=>h)
 have u7:=ExtP.fit (E:=fun _=>False) x4' zgi (fun h=>h)
 go_enter Tryz.func29,Tryz.ntmps29
 go_upto_region 1 with fail
 rw [HWW.out]
 go_wp2_with fail
 refine (isOneOf_any _ _ _).mono ?_
 rintro e w9 ⟨rfl,hw9⟩
 rw [hw9,ONE.out]
 clear hw9 w9
 go_upto_region 4 with fail
 refine regionMix W (CP W (fun _=>False)) 11 12 (by kernel_rfl) (by kernel_rfl) (fun _ _ d _ _ h=>by cases d<;>exact h) (CP.drew _ _) ?_
 unfold CP
 dsimp only [List.take,List.drop]
 repeat (go_big_quiet_step (fail))
 refine wpQuiet_nil ?_
 clear hne u0 u1 u2 u3 u4 u5 u6 u7
 unfold wpListC
 go_wp2
 refine And.intro (fun _ hc=>CP.below hc ((Below.refl _ _).alloc (Nat.le_refl _) _)) ?_
 refine listC_late _ _ _ _ (by decide) ?_
 obtain ⟨V,hV,hXB,kV,zV⟩:=Xb.new W.drew (.int .i64 o) (.int .i64 r) (.int .i64 a) (.int .i64 bb) (.int .i64 n) 85
 have kV':Below W.heap.size W V:=(Below.drew (Below.refl _ _)).trans kV
 have HVV:=hidW hV
 have KV:=hidW (KW.out.trans (kV'.mono (by omega)))
 have HXB:=hidW (show Xb V W.heap.size (.int .i64 o) (.int .i64 r) (.int .i64 a) (.int .i64 bb) (.int .i64 n) from hXB)
 have hf1:o=10:=by have:=HIX.out;rw [this] at hf;exact hf.1
 have hf2:(d.tr.length:Int)=4000:=by omega
 subst hst hf1
 have zv:(4000:Int)≤(d.tr.length:Int):=by omega
 clear kV kV' hXB hV hf
 go_wp2
 go_ret
 refine turn_idle HO.out HS.out HBS.out hb ?_
 have e:=HVV.out
 have kk:=KV.out
 rw [← e] at kk
 exact kk
end
end Go.Proofs.YtknffngbdakblaaGreat
