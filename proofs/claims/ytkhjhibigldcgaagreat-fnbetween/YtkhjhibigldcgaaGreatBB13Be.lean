/- Between of both sides. Conditions: the program fits. -/
import Derived.Test.YtkhjhibigldcgaaGreatBG01
import Derived.Test.YtkhjhibigldcgaaGreatBG00
import Derived.Test.YtkhjhibigldcgaaGreatBG23
import Derived.Test.YtkhjhibigldcgaaGreatBG05
import Derived.Test.YtkhjhibigldcgaaGreatBG26
import Derived.Test.YtkhjhibigldcgaaGreatBG09
import Derived.Test.YtkhjhibigldcgaaGreatBG24
import Derived.Test.YtkhjhibigldcgaaGreatBG10
import Derived.Test.YtkhjhibigldcgaaGreatBG11
namespace Go.Proofs.YtkhjhibigldcgaaGreat
set_option linter.unusedSimpArgs false
set_option linter.unusedVariables false
set_option maxRecDepth 100000
open Go.RowKit
theorem hidB {p:Prop} (h:p):Hid p:=h
def betV (p:PD) (d:MD) (who:Int):Bool:=
 if 0≤who∧who < (d.cores.length:Int) then
  (match d.cores[who.toNat]? with
   | some k=>if k.st=0 then (placeV (bodV p who) k.pc).2 else false
   | none=>false)
 else false
theorem betV_none {p:PD} {d:MD} {who:Int} (h:¬ (0≤who∧who < (d.cores.length:Int))):betV p d who=false:=by
 unfold betV
 rw [if_neg h]
theorem betV_at {p:PD} {d:MD} {n:Nat} {k:KD} (hk:d.cores[n]? =some k):betV p d n=if k.st=0 then (placeV (bodV p n) k.pc).2 else false:=by
 have hn:=(List.getElem?_eq_some_iff.1 hk).1
 unfold betV
 rw [if_pos (by omega),Int.toNat_natCast,hk]
/- the boxes of Between: the program and the machine -/
structure Bb6 (V:World) (z:Nat) (p0 p1 m0 m1 m2 m3:Value):Prop where
 p0:V.cell? ⟨z,0,none⟩=some p0
 p1:V.cell? ⟨z,1,none⟩=some p1
 m0:V.cell? ⟨z+1,0,none⟩=some m0
 m1:V.cell? ⟨z+1,1,none⟩=some m1
 m2:V.cell? ⟨z+1,2,none⟩=some m2
 m3:V.cell? ⟨z+1,3,none⟩=some m3
 z:z+1 < V.heap.size
theorem bb6_new {w W:World} {p0 p1 m0 m1 m2 m3:Value} {T0 T1:TypeId} (hW:(w.alloc (.cells #[p0,p1] T0)).alloc (.cells #[m0,m1,m2,m3] T1)=W):Bb6 W w.heap.size p0 p1 m0 m1 m2 m3∧Below w.heap.size w W:=by
 subst hW
 refine ⟨⟨?_,?_,?_,?_,?_,?_,?_⟩,(((Below.refl _ _).alloc (Nat.le_refl _) _).alloc (by simp) _)⟩
 all_goals simp [go_sem]
set_option maxHeartbeats 1000000 in
theorem implBet_no (p1 p2 s1 s2 s3 s4 : Option Addr) (a1 a2 c1 c2 c3 c4 lo hi lo' hi' : Nat) (p : PD) (d : MD) (who : Int) (w : World) (hl : d.cores.length ≤ 1048576) (hw : ¬ (0 ≤ who ∧ who < (d.cores.length : Int))) :
  Calls Tryz.prog 6 #[.agg #[.slice p1 p.caps.length a1,.slice p2 p.bods.length a2],.agg #[.slice s1 d.codes.length c1,.slice s2 d.cores.length c2,.slice s3 d.mem.length c3,.slice s4 d.tr.length c4],.int .i64 who] w fun e w'=>e=.returned (.bool false)∧Below w.heap.size w w':=by
 have HW:=hidB hw
 clear hw
 obtain ⟨W,hW⟩:∃ W,(w.alloc (.cells #[.slice p1 p.caps.length a1,.slice p2 p.bods.length a2] 27)).alloc (.cells #[.slice s1 d.codes.length c1,.slice s2 d.cores.length c2,.slice s3 d.mem.length c3,.slice s4 d.tr.length c4] 35)=W:=⟨_,rfl⟩
 obtain ⟨bb,kW⟩:=bb6_new hW
 have HWW:=hidB hW
 have KW:=hidB kW
 obtain ⟨q0,q1,m0,m1,m2,m3,zz⟩:=bb
 clear hW kW
 go_enter Tryz.func6,Tryz.ntmps6
 go_wp2_with fail
 rw [HWW.out]
 refine (isOneOf_is _ _ false _ (by have:=HW.out;unfold Plain.oneB;simp;omega)).mono ?_
 rintro e w9 ⟨rfl,hw9⟩
 rw [hw9]
 clear hw9 w9
 go_wp2
 go_ret
 exact ⟨rfl,KW.out⟩
set_option maxHeartbeats 2000000 in
theorem implBet_at (p1 p2 s1 s2 s3 s4 : Option Addr) (a1 a2 c1 c2 c3 c4 lo hi lo' hi' : Nat) (p : PD) (d : MD) (who : Nat) (kk : KD) (w : World) (h0 : ProgR w lo hi p1 p2 p) (h1 : KsR w lo' hi' s2 d.cores) (hB : hi ≤ w.heap.size) (hB' : hi' ≤ w.heap.size) (hf : Fits p) (hl : d.cores.length ≤ 1048576) (hk : d.cores[who]? = some kk) :
  Calls Tryz.prog 6 #[.agg #[.slice p1 p.caps.length a1,.slice p2 p.bods.length a2],.agg #[.slice s1 d.codes.length c1,.slice s2 d.cores.length c2,.slice s3 d.mem.length c3,.slice s4 d.tr.length c4],.int .i64 who] w fun e w'=>e=.returned (.bool (if kk.st=0 then (placeV (bodV p who) kk.pc).2 else false))∧Below w.heap.size w w':=by
 have hn:=(List.getElem?_eq_some_iff.1 hk).1
 have b0:(0:Int)≤(who:Int):=by omega
 have b1:(who:Int) < (d.cores.length:Int):=by omega
 obtain ⟨W,hW⟩:∃ W,(w.alloc (.cells #[.slice p1 p.caps.length a1,.slice p2 p.bods.length a2] 27)).alloc (.cells #[.slice s1 d.codes.length c1,.slice s2 d.cores.length c2,.slice s3 d.mem.length c3,.slice s4 d.tr.length c4] 35)=W:=⟨_,rfl⟩
 obtain ⟨bb,kW⟩:=bb6_new hW
 have HWW:=hidB hW
 have KW:=hidB kW
 have H0:=hidB h0
 have HF:=hidB hf
 obtain ⟨g,o,t1,e1,t2,e2,es,g1,g2,f0,f1,f2,f3,-,-⟩:=(h1.keep (Keep.of_below kW hB')).at hk
 subst es
 obtain ⟨q0,q1,m0,m1,m2,m3,zz⟩:=bb
 have sW:=kW.size
 have zg:g < W.heap.size:=by omega
 obtain ⟨pc,regs,vw,st⟩:=kk
 simp only at f0 f3 ⊢
 clear hW kW h0 h1 hf f1 f2
 by_cases hst:st=0
 ·subst hst
  rw [if_pos rfl]
  obtain ⟨⟨pa,pb⟩,hpv⟩:∃ x,placeV (bodV p who) pc=x:=⟨_,rfl⟩
  rw [hpv]
  have HPV:=hidB hpv
  clear hpv
  go_enter Tryz.func6,Tryz.ntmps6
  go_wp2_with fail
  rw [HWW.out]
  refine (isOneOf_is _ _ true _ (by unfold Plain.oneB;simp;omega)).mono ?_
  rintro e w9 ⟨rfl,hw9⟩
  rw [hw9]
  clear hw9 w9
  go_wp2_with fail
  have hne:=ext_ne W
  have u0:=Ext.fit q0 (by omega)
  have u1:=Ext.fit q1 (by omega)
  have u2:=Ext.fit m1 (by omega)
  have u3:=Ext.fit f0 zg
  have PL:=hidB (fun (V:World) (hV:Below w.heap.size w V)=>implPlace_any p1 p2 a1 a2 lo hi p who pc V (ProgR.keep' H0.out (Keep.of_below hV hB)) (by have:=hV.size;omega) HF.out)
  rw [HPV.out] at PL
  refine regionExt W (by kernel_rfl) (by kernel_rfl) ?_
  repeat (go_big_quiet_step ((rename_i X;go_at_call 8;refine Calls.mono (PL.out _ (KW.out.trans (X.b.mono (by omega)))) ?_;rintro e w3 ⟨rfl,hb3⟩;exact ⟨rfl,X.on hb3⟩)))
  refine wpQuiet_nil ?_
  rintro w3 ⟨X3,rfl⟩
  have KU:=hidB (KW.out.trans (X3.b.mono (by omega)))
  clear hne u0 u1 u2 u3 q0 q1 m0 m1 m2 m3 f0 f3 PL
  go_wp2
  go_ret
  exact ⟨rfl,KU.out⟩
 ·rw [if_neg hst]
  go_enter Tryz.func6,Tryz.ntmps6
  go_wp2_with fail
  rw [HWW.out]
  refine (isOneOf_is _ _ true _ (by unfold Plain.oneB;simp;omega)).mono ?_
  rintro e w9 ⟨rfl,hw9⟩
  rw [hw9]
  clear hw9 w9
  have hst':(st !=0)=true:=by simp [hst]
  go_wp2
  go_ret
  exact ⟨rfl,KW.out⟩
theorem implBet_any (p1 p2 s1 s2 s3 s4 : Option Addr) (a1 a2 c1 c2 c3 c4 lo hi lo' hi' : Nat) (p : PD) (d : MD) (who : Int) (w : World) (h0 : ProgR w lo hi p1 p2 p) (h1 : KsR w lo' hi' s2 d.cores) (hB : hi ≤ w.heap.size) (hB' : hi' ≤ w.heap.size) (hf : Fits p) (hl : d.cores.length ≤ 1048576) :
  Calls Tryz.prog 6 #[.agg #[.slice p1 p.caps.length a1,.slice p2 p.bods.length a2],.agg #[.slice s1 d.codes.length c1,.slice s2 d.cores.length c2,.slice s3 d.mem.length c3,.slice s4 d.tr.length c4],.int .i64 who] w fun e w'=>e=.returned (.bool (betV p d who))∧Below w.heap.size w w':=by
 by_cases hw:0≤who∧who < (d.cores.length:Int)
 ·obtain ⟨n,rfl⟩:∃ n:Nat,who=(n:Int):=⟨who.toNat,by omega⟩
  obtain ⟨k,hk⟩:∃ k,d.cores[n]? =some k:=⟨_,List.getElem?_eq_getElem (by omega)⟩
  rw [betV_at hk]
  exact implBet_at p1 p2 s1 s2 s3 s4 a1 a2 c1 c2 c3 c4 lo hi lo' hi' p d n k w h0 h1 hB hB' hf hl hk
 ·rw [betV_none hw]
  exact implBet_no p1 p2 s1 s2 s3 s4 a1 a2 c1 c2 c3 c4 lo hi lo' hi' p d who w hl hw
set_option maxHeartbeats 1000000 in
theorem specBet_no (p1 p2 s1 s2 s3 s4 : Option Addr) (a1 a2 c1 c2 c3 c4 lo hi lo' hi' : Nat) (p : PD) (d : MD) (who : Int) (w : World) (hl : d.cores.length ≤ 1048576) (hw : ¬ (0 ≤ who ∧ who < (d.cores.length : Int))) :
  Calls Tryz.prog 7 #[.agg #[.slice p1 p.caps.length a1,.slice p2 p.bods.length a2],.agg #[.slice s1 d.codes.length c1,.slice s2 d.cores.length c2,.slice s3 d.mem.length c3,.slice s4 d.tr.length c4],.int .i64 who] w fun e w'=>e=.returned (.bool false)∧Below w.heap.size w w':=by
 have HW:=hidB hw
 have wl:IntKind.i64.wrap ((d.cores.length:Int) - 1)=(d.cores.length:Int) - 1:=Go.IntWalk.i64_in _ (by omega)
 clear hw
 obtain ⟨W,hW⟩:∃ W,(w.alloc (.cells #[.slice p1 p.caps.length a1,.slice p2 p.bods.length a2] 27)).alloc (.cells #[.slice s1 d.codes.length c1,.slice s2 d.cores.length c2,.slice s3 d.mem.length c3,.slice s4 d.tr.length c4] 35)=W:=⟨_,rfl⟩
 obtain ⟨bb,kW⟩:=bb6_new hW
 have HWW:=hidB hW
 have KW:=hidB kW
 obtain ⟨q0,q1,m0,m1,m2,m3,zz⟩:=bb
 clear hW kW
 go_enter Tryz.func7,Tryz.ntmps7
 go_wp2_with fail
 rw [HWW.out]
 refine (l1In_is _ _ _ false _ (by have:=HW.out;unfold Plain.inB;simp;omega)).mono ?_
 rintro e w9 ⟨rfl,hw9⟩
 rw [hw9]
 clear hw9 w9
 go_wp2
 go_ret
 exact ⟨rfl,KW.out⟩
set_option maxHeartbeats 2000000 in
theorem specBet_at (p1 p2 s1 s2 s3 s4 : Option Addr) (a1 a2 c1 c2 c3 c4 lo hi lo' hi' : Nat) (p : PD) (d : MD) (who : Nat) (kk : KD) (w : World) (h0 : ProgR w lo hi p1 p2 p) (h1 : KsR w lo' hi' s2 d.cores) (hB : hi ≤ w.heap.size) (hB' : hi' ≤ w.heap.size) (hf : Fits p) (hl : d.cores.length ≤ 1048576) (hk : d.cores[who]? = some kk) :
  Calls Tryz.prog 7 #[.agg #[.slice p1 p.caps.length a1,.slice p2 p.bods.length a2],.agg #[.slice s1 d.codes.length c1,.slice s2 d.cores.length c2,.slice s3 d.mem.length c3,.slice s4 d.tr.length c4],.int .i64 who] w fun e w'=>e=.returned (.bool (if kk.st=0 then (placeV (bodV p who) kk.pc).2 else false))∧Below w.heap.size w w':=by
 have hn:=(List.getElem?_eq_some_iff.1 hk).1
 have wl:IntKind.i64.wrap ((d.cores.length:Int) - 1)=(d.cores.length:Int) - 1:=Go.IntWalk.i64_in _ (by omega)
 have b0:(0:Int)≤(who:Int):=by omega
 have b1:(who:Int) < (d.cores.length:Int):=by omega
 obtain ⟨W,hW⟩:∃ W,(w.alloc (.cells #[.slice p1 p.caps.length a1,.slice p2 p.bods.length a2] 27)).alloc (.cells #[.slice s1 d.codes.length c1,.slice s2 d.cores.length c2,.slice s3 d.mem.length c3,.slice s4 d.tr.length c4] 35)=W:=⟨_,rfl⟩
 obtain ⟨bb,kW⟩:=bb6_new hW
 have HWW:=hidB hW
 have KW:=hidB kW
 have H0:=hidB h0
 have HF:=hidB hf
 obtain ⟨g,o,t1,e1,t2,e2,es,g1,g2,f0,f1,f2,f3,-,-⟩:=(h1.keep (Keep.of_below kW hB')).at hk
 subst es
 obtain ⟨q0,q1,m0,m1,m2,m3,zz⟩:=bb
 have sW:=kW.size
 have zg:g < W.heap.size:=by omega
 obtain ⟨pc,regs,vw,st⟩:=kk
 simp only at f0 f3 ⊢
 clear hW kW h0 h1 hf f1 f2
 by_cases hst:st=0
 ·subst hst
  rw [if_pos rfl]
  obtain ⟨⟨pa,pb⟩,hpv⟩:∃ x,placeV (bodV p who) pc=x:=⟨_,rfl⟩
  rw [hpv]
  have HPV:=hidB hpv
  clear hpv
  go_enter Tryz.func7,Tryz.ntmps7
  go_wp2_with fail
  rw [HWW.out]
  refine (l1In_is _ _ _ true _ (by unfold Plain.inB;simp;omega)).mono ?_
  rintro e w9 ⟨rfl,hw9⟩
  rw [hw9]
  clear hw9 w9
  go_wp2_with fail
  have hne:=ext_ne W
  have u0:=Ext.fit q0 (by omega)
  have u1:=Ext.fit q1 (by omega)
  have u2:=Ext.fit m1 (by omega)
  have u3:=Ext.fit f0 zg
  have PL:=hidB (fun (V:World) (hV:Below w.heap.size w V)=>specPlace_any p1 p2 a1 a2 lo hi p who pc V (ProgR.keep' H0.out (Keep.of_below hV hB)) (by have:=hV.size;omega) HF.out)
  rw [HPV.out] at PL
  refine regionExt W (by kernel_rfl) (by kernel_rfl) ?_
  repeat (go_big_quiet_step ((rename_i X;go_at_call 14;refine Calls.mono (PL.out _ (KW.out.trans (X.b.mono (by omega)))) ?_;rintro e w3 ⟨rfl,hb3⟩;exact ⟨rfl,X.on hb3⟩)))
  refine wpQuiet_nil ?_
  rintro w3 ⟨X3,rfl⟩
  have KU:=hidB (KW.out.trans (X3.b.mono (by omega)))
  clear hne u0 u1 u2 u3 q0 q1 m0 m1 m2 m3 f0 f3 PL
  go_wp2
  go_ret
  exact ⟨rfl,KU.out⟩
 ·rw [if_neg hst]
  go_enter Tryz.func7,Tryz.ntmps7
  go_wp2_with fail
  rw [HWW.out]
  refine (l1In_is _ _ _ true _ (by unfold Plain.inB;simp;omega)).mono ?_
  rintro e w9 ⟨rfl,hw9⟩
  rw [hw9]
  clear hw9 w9
  have hst':(st !=0)=true:=by simp [hst]
  go_wp2
  go_ret
  exact ⟨rfl,KW.out⟩
theorem specBet_any (p1 p2 s1 s2 s3 s4 : Option Addr) (a1 a2 c1 c2 c3 c4 lo hi lo' hi' : Nat) (p : PD) (d : MD) (who : Int) (w : World) (h0 : ProgR w lo hi p1 p2 p) (h1 : KsR w lo' hi' s2 d.cores) (hB : hi ≤ w.heap.size) (hB' : hi' ≤ w.heap.size) (hf : Fits p) (hl : d.cores.length ≤ 1048576) :
  Calls Tryz.prog 7 #[.agg #[.slice p1 p.caps.length a1,.slice p2 p.bods.length a2],.agg #[.slice s1 d.codes.length c1,.slice s2 d.cores.length c2,.slice s3 d.mem.length c3,.slice s4 d.tr.length c4],.int .i64 who] w fun e w'=>e=.returned (.bool (betV p d who))∧Below w.heap.size w w':=by
 by_cases hw:0≤who∧who < (d.cores.length:Int)
 ·obtain ⟨n,rfl⟩:∃ n:Nat,who=(n:Int):=⟨who.toNat,by omega⟩
  obtain ⟨k,hk⟩:∃ k,d.cores[n]? =some k:=⟨_,List.getElem?_eq_getElem (by omega)⟩
  rw [betV_at hk]
  exact specBet_at p1 p2 s1 s2 s3 s4 a1 a2 c1 c2 c3 c4 lo hi lo' hi' p d n k w h0 h1 hB hB' hf hl hk
 ·rw [betV_none hw]
  exact specBet_no p1 p2 s1 s2 s3 s4 a1 a2 c1 c2 c3 c4 lo hi lo' hi' p d who w hl hw
end Go.Proofs.YtkhjhibigldcgaaGreat
