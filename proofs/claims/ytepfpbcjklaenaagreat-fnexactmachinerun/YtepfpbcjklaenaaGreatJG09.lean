/- How the laws compare rows of code. Conditions: they are counted. How the laws compare rows of cores. Conditions: they are counted. How the laws compare machines. Conditions: they are counted. Rows of steps and of notes written over with running numbers, and looked at again. Conditions: at most ten million integers. Rows of code written over with running numbers, and looked at again. Conditions: at most ten million integers. Rows of cores written over with running numbers, and looked at again. Conditions: at most ten million integers. The shape of machines that are written over. Conditions: they are counted. Machines written over with running numbers, and looked at again. Conditions: they are counted. Rows of picks as they lie in memory, and how the laws count, copy, compare and mark them. Conditions: each list of at most 1048576. A region that draws its order, whose first operations only read and whose others come one behind the other: one walk of the first ones, in the order of the text, and then the others. No condition. -/
import Derived.Test.YtepfpbcjklaenaaGreatJG00
import Derived.Test.YtepfpbcjklaenaaGreatJG01
import Derived.Test.YtepfpbcjklaenaaGreatJG02
import Derived.Test.YtepfpbcjklaenaaGreatJG04
import Derived.Test.YtepfpbcjklaenaaGreatJG07
import Derived.Deep.RegionWith
import Derived.Test.YtepfpbcjklaenaaGreatJG05
import Derived.Test.YtepfpbcjklaenaaGreatJG08
namespace Go.Proofs.YtepfpbcjklaenaaGreat
section
set_option linter.unusedSimpArgs false
set_option linter.unusedVariables false
set_option maxRecDepth 100000
section
open Go.RowKit
set_option maxHeartbeats 1048576 in
theorem eqStepSS_alike (s s' : Option Addr) (c c' lo hi lo' hi' : Nat) (l : List (List I5)) (w : World) (h : CsR w lo hi s l) (h' : CsR w lo' hi' s' l) (hB : hi ≤ w.heap.size) (hB' : hi' ≤ w.heap.size) (hl : l.length + szC l ≤ 1048576) :
  Calls Tryz.prog 34 #[.slice s l.length c,.slice s' l.length c'] w fun e w'=>e=.returned (.bool true)∧Below w.heap.size w w':=by
 have H1:Hid (CsR w lo hi s l):=h
 have H2:Hid (CsR w lo' hi' s' l):=h'
 have Q3:Hid (∀ (i:Nat) (t:List I5),l[i]? =some t→t.length≤1048576):=fun i t ht=>by have:=szC_at l i t ht;omega
 have hl1:l.length≤1048576:=by omega
 clear h h' hl
 have hne:((l.length:Int) !=(l.length:Int))=false:=by simp
 go_enter Tryz.func34,Tryz.ntmps34
 go_wp2
 go_loopw [5] (fun i wr=>∃ k:Nat,k≤l.length∧i=.int .i64 k∧Below w.heap.size w wr) (fun i _=>l.length - (intOf i).toNat)
 case atStart=>exact ⟨0,Nat.zero_le _,rfl,Below.refl _ _⟩
 case round=>
  obtain ⟨k,hk,rfl,hb⟩:=hrel
  have HB:Hid (Below w.heap.size w wr):=hb
  have hsz:=hb.size
  clear hb
  by_cases hlt:k < l.length
  ·obtain ⟨t,ht⟩:∃ t,l[k]? =some t:=⟨_,List.getElem?_eq_getElem hlt⟩
   obtain ⟨g,off,s1,c1,hs,g1,g2,f1,hin⟩:=(H1.out.keep (Keep.of_below HB.out hB)).at ht
   obtain ⟨g',off',s2,c2,hs',g1',g2',f1',hin'⟩:=(H2.out.keep (Keep.of_below HB.out hB')).at ht
   subst hs
   subst hs'
   have hlen:=Q3.out k t ht
   have HI1:Hid (InsB wr wr.heap.size s1 t):=hin.insB.mono (by omega)
   have HI2:Hid (InsB wr wr.heap.size s2 t):=hin'.insB.mono (by omega)
   clear hin hin' ht
   have b0:(0:Int)≤(k:Int):=by omega
   have b1:(k:Int) < (l.length:Int):=by omega
   go_wp2_with fail
   first | go_region_with (go_at_call 71;refine (eqStepS_same s1 s2 c1 c2 wr.heap.size t _ ?_ ?_ ?_ (by omega)).mono ?_;(exact HI1.out);(exact HI2.out);(first | exact Nat.le_refl _ | omega | (simp;omega));rintro e w1 ⟨rfl,hb1⟩) | fail
   all_goals
    have HB1:Hid (Below wr.heap.size wr w1):=⟨hb1.os,hb1.tape,hb1.output,hb1.size,hb1.block⟩
    clear hb1
    go_wp2
    go_roundw
    case rel=>exact ⟨k+1,by omega,by go_num,HB.out.trans (HB1.out.mono hsz)⟩
    case measure=>simp [intOf];omega
  ·go_wp2
   go_ret
   exact ⟨rfl,HB.out⟩
end
section
open Go.RowKit
theorem two4 {w W:World} {a b c d a' b' c' d':Value} {T T':TypeId} (hW:(w.alloc (.cells #[a,b,c,d] T)).alloc (.cells #[a',b',c',d'] T')=W):Below w.heap.size w W∧B4 W w.heap.size a b c d∧B4 W (w.heap.size+1) a' b' c' d':=by
 subst hW
 refine ⟨((Below.refl _ _).alloc (Nat.le_refl _) _).alloc (by simp) _,⟨?_,?_,?_,?_,?_⟩,⟨?_,?_,?_,?_,?_⟩⟩<;>simp [go_sem]<;>omega
set_option maxHeartbeats 1000000 in
theorem eqCore_alike (pc st : Int) (s s' t t' : Option Addr) (l m : List Int) (c c' e e' lo hi lo' hi' : Nat) (w : World) (h : IntsR w lo hi s l) (h' : IntsR w lo' hi' s' l) (q : IntsR w lo hi t m) (q' : IntsR w lo' hi' t' m) (hB : hi ≤ w.heap.size) (hB' : hi' ≤ w.heap.size) (hl : l.length ≤ 1000000000) (hm : m.length ≤ 1000000000) :
  Calls Tryz.prog 72 #[.agg #[.int .i64 pc,.slice s l.length c,.slice t m.length e,.int .i64 st],.agg #[.int .i64 pc,.slice s' l.length c',.slice t' m.length e',.int .i64 st]] w fun e w'=>e=.returned (.bool true)∧Below w.heap.size w w':=by
 have H1:Hid (IntsR w lo hi s l):=h
 have H2:Hid (IntsR w lo' hi' s' l):=h'
 have Q1:Hid (IntsR w lo hi t m):=q
 have Q2:Hid (IntsR w lo' hi' t' m):=q'
 clear h h' q q'
 have e1:(pc !=pc)=false:=by simp
 have e2:(st !=st)=false:=by simp
 go_enter Tryz.func72,Tryz.ntmps72
 go_wp2_with fail
 try (first | go_region_with fail | skip)
 have k0:Below w.heap.size w ((w.alloc (.cells #[.int .i64 pc,.slice s l.length c,.slice t m.length e,.int .i64 st] 64)).alloc (.cells #[.int .i64 pc,.slice s' l.length c',.slice t' m.length e',.int .i64 st] 64)):=((Below.refl w.heap.size w).alloc (Nat.le_refl _) _).alloc (by simp) _
 refine (eqIntS_any s s' l l c c' _ ((H1.out.keep (Keep.of_below k0 hB)).ints (by simp;omega)) ((H2.out.keep (Keep.of_below k0 hB')).ints (by simp;omega)) (by omega)).mono ?_
 rintro r w1 ⟨rfl,m1,rfl⟩
 rw [decide_eq_true (rfl:l=l)]
 obtain ⟨W,hW⟩:∃ W,(w.alloc (.cells #[.int .i64 pc,.slice s l.length c,.slice t m.length e,.int .i64 st] 64)).alloc (.cells #[.int .i64 pc,.slice s' l.length c',.slice t' m.length e',.int .i64 st] 64)=W:=⟨_,rfl⟩
 obtain ⟨kw,⟨z0,-,-,a2,a3⟩,⟨z1,-,-,b2,b3⟩⟩:=two4 hW
 rw [hW]
 clear hW k0
 obtain ⟨V,hV⟩:∃ V,W.drewN m1=V:=⟨_,rfl⟩
 have kv:Below w.heap.size w V:=by rw [← hV];exact belowQ kw m1
 have z0':w.heap.size < V.heap.size:=by rw [← hV];exact z0
 have z1':w.heap.size+1 < V.heap.size:=by rw [← hV];exact z1
 have a2':V.cell? ⟨w.heap.size,2,none⟩=some (.slice t m.length e):=by rw [← hV];exact a2
 have b2':V.cell? ⟨w.heap.size+1,2,none⟩=some (.slice t' m.length e'):=by rw [← hV];exact b2
 have a3':V.cell? ⟨w.heap.size,3,none⟩=some (.int .i64 st):=by rw [← hV];exact a3
 have b3':V.cell? ⟨w.heap.size+1,3,none⟩=some (.int .i64 st):=by rw [← hV];exact b3
 rw [hV]
 have HV:Hid (Below w.heap.size w V):=kv
 clear hV kw kv a2 a3 b2 b3 z0 z1
 go_wp2_with fail
 refine (eqIntS_any t t' m m e e' _ ((Q1.out.keep (Keep.of_below HV.out hB)).ints (by omega)) ((Q2.out.keep (Keep.of_below HV.out hB')).ints (by omega)) (by omega)).mono ?_
 rintro r w1 ⟨rfl,m2,rfl⟩
 rw [decide_eq_true (rfl:m=m)]
 go_wp2
 go_ret
 exact ⟨rfl,belowQ HV.out _⟩
set_option maxHeartbeats 2000000 in
theorem eqCoreS_alike (s s' : Option Addr) (c c' lo hi lo' hi' : Nat) (l : List KD) (w : World) (h : KsR w lo hi s l) (h' : KsR w lo' hi' s' l) (hB : hi ≤ w.heap.size) (hB' : hi' ≤ w.heap.size) (hl : l.length + szK l ≤ 2000000) :
  Calls Tryz.prog 35 #[.slice s l.length c,.slice s' l.length c'] w fun e w'=>e=.returned (.bool true)∧Below w.heap.size w w':=by
 have H1:Hid (KsR w lo hi s l):=h
 have H2:Hid (KsR w lo' hi' s' l):=h'
 have Q3:Hid (∀ (i:Nat) (t:KD),l[i]? =some t→t.regs.length+t.vw.length≤2000000):=fun i t ht=>by have:=szK_at l i t ht;omega
 have hl1:l.length≤2000000:=by omega
 clear h h' hl
 have hne:((l.length:Int) !=(l.length:Int))=false:=by simp
 go_enter Tryz.func35,Tryz.ntmps35
 go_wp2
 go_loopw [5] (fun i wr=>∃ k:Nat,k≤l.length∧i=.int .i64 k∧Below w.heap.size w wr) (fun i _=>l.length - (intOf i).toNat)
 case atStart=>exact ⟨0,Nat.zero_le _,rfl,Below.refl _ _⟩
 case round=>
  obtain ⟨k,hk,rfl,hb⟩:=hrel
  have HB:Hid (Below w.heap.size w wr):=hb
  have hsz:=hb.size
  clear hb
  by_cases hlt:k < l.length
  ·obtain ⟨t,ht⟩:∃ t,l[k]? =some t:=⟨_,List.getElem?_eq_getElem hlt⟩
   obtain ⟨g,off,s1,c1,s3,c3,hs,g1,g2,f0,f1,f2,f3,hin,kin⟩:=(H1.out.keep (Keep.of_below HB.out hB)).at ht
   obtain ⟨g',off',s2,c2,s4,c4,hs',g1',g2',f0',f1',f2',f3',hin',kin'⟩:=(H2.out.keep (Keep.of_below HB.out hB')).at ht
   subst hs
   subst hs'
   have hlen:=Q3.out k t ht
   obtain ⟨v,rg,vw,st⟩:=t
   simp only at f0 f1 f2 f3 f0' f1' f2' f3' hin hin' kin kin' hlen
   have KI1:Hid (IntsR wr lo hi s3 vw):=kin
   have KI2:Hid (IntsR wr lo' hi' s4 vw):=kin'
   clear kin kin'
   have HI1:Hid (IntsR wr lo hi s1 rg):=hin
   have HI2:Hid (IntsR wr lo' hi' s2 rg):=hin'
   clear hin hin' ht
   have b0:(0:Int)≤(k:Int):=by omega
   have b1:(k:Int) < (l.length:Int):=by omega
   go_wp2_with fail
   first | go_region_with (go_at_call 72;refine (eqCore_alike v st s1 s2 s3 s4 rg vw c1 c2 c3 c4 lo hi lo' hi' _ ?_ ?_ ?_ ?_ ?_ ?_ (by omega) (by omega)).mono ?_;(exact HI1.out);(exact HI2.out);(exact KI1.out);(exact KI2.out);(first | omega | (simp;omega));(first | omega | (simp;omega));rintro e w1 ⟨rfl,hb1⟩) | fail
   all_goals
    have HB1:Hid (Below wr.heap.size wr w1):=⟨hb1.os,hb1.tape,hb1.output,hb1.size,hb1.block⟩
    clear hb1
    go_wp2
    go_roundw
    case rel=>exact ⟨k+1,by omega,by go_num,HB.out.trans (HB1.out.mono hsz)⟩
    case measure=>simp [intOf];omega
  ·go_wp2
   go_ret
   exact ⟨rfl,HB.out⟩
end
section
open Go.RowKit
set_option maxHeartbeats 2000000 in
theorem eqMachine_alike (s1 s2 s3 s4 t1 t2 t3 t4 : Option Addr) (c1 c2 c3 c4 f1 f2 f3 f4 lo hi lo' hi' : Nat) (d : MD) (w : World) (h : MaR w lo hi s1 s2 s3 s4 d) (h' : MaR w lo' hi' t1 t2 t3 t4 d) (hB : hi ≤ w.heap.size) (hB' : hi' ≤ w.heap.size) (hf : MaFits d) :
  Calls Tryz.prog 10 #[.agg #[.slice s1 d.codes.length c1,.slice s2 d.cores.length c2,.slice s3 d.mem.length c3,.slice s4 d.tr.length c4],.agg #[.slice t1 d.codes.length f1,.slice t2 d.cores.length f2,.slice t3 d.mem.length f3,.slice t4 d.tr.length f4]] w fun e w'=>e=.returned (.bool true)∧Below w.heap.size w w':=by
 have H:Hid (MaR w lo hi s1 s2 s3 s4 d):=h
 have H':Hid (MaR w lo' hi' t1 t2 t3 t4 d):=h'
 have F1:d.codes.length+szC d.codes≤1048576:=hf.c
 have F2:d.cores.length+szK d.cores≤2000000:=by have:=hf.k;omega
 have F3:d.mem.length+szR d.mem≤2000000:=hf.m
 have F4:d.tr.length≤2000000:=hf.t
 clear h h' hf
 go_enter Tryz.func10,Tryz.ntmps10
 go_wp2_with fail
 obtain ⟨W,hW⟩:∃ W,(w.alloc (.cells #[.slice s1 d.codes.length c1,.slice s2 d.cores.length c2,.slice s3 d.mem.length c3,.slice s4 d.tr.length c4] 40)).alloc (.cells #[.slice t1 d.codes.length f1,.slice t2 d.cores.length f2,.slice t3 d.mem.length f3,.slice t4 d.tr.length f4] 40)=W:=⟨_,rfl⟩
 obtain ⟨ka,ba,bb⟩:=two4 hW
 rw [hW]
 clear hW
 have A0:Hid (B4 W w.heap.size (.slice s1 d.codes.length c1) (.slice s2 d.cores.length c2) (.slice s3 d.mem.length c3) (.slice s4 d.tr.length c4)):=ba
 have B0:Hid (B4 W (w.heap.size+1) (.slice t1 d.codes.length f1) (.slice t2 d.cores.length f2) (.slice t3 d.mem.length f3) (.slice t4 d.tr.length f4)):=bb
 have K0:Hid (Below w.heap.size w W):=ka
 have z0:=ba.z
 clear ka ba bb
 refine (eqStepSS_alike s1 t1 c1 f1 lo hi lo' hi' d.codes W (H.out.keep (Keep.of_below K0.out hB)).1 (H'.out.keep (Keep.of_below K0.out hB')).1 (by omega) (by omega) F1).mono ?_
 rintro e w1 ⟨rfl,hb1⟩
 have A1:Hid (B4 w1 w.heap.size (.slice s1 d.codes.length c1) (.slice s2 d.cores.length c2) (.slice s3 d.mem.length c3) (.slice s4 d.tr.length c4)):=A0.out.keep (hb1.mono (Nat.le_refl _)) A0.out.z
 have B1:Hid (B4 w1 (w.heap.size+1) (.slice t1 d.codes.length f1) (.slice t2 d.cores.length f2) (.slice t3 d.mem.length f3) (.slice t4 d.tr.length f4)):=B0.out.keep (hb1.mono (Nat.le_refl _)) B0.out.z
 have K1:Hid (Below w.heap.size w w1):=K0.out.trans (hb1.mono (by omega))
 clear hb1
 have a1:=A1.out
 have b1:=B1.out
 obtain ⟨p0,p1,p2,p3,p4⟩:=a1
 obtain ⟨q0,q1,q2,q3,q4⟩:=b1
 go_wp2_with fail
 refine (eqCoreS_alike s2 t2 c2 f2 lo hi lo' hi' d.cores w1 (H.out.keep (Keep.of_below K1.out hB)).2.1 (H'.out.keep (Keep.of_below K1.out hB')).2.1 (by omega) (by omega) F2).mono ?_
 rintro e w2 ⟨rfl,hb2⟩
 have A2:Hid (B4 w2 w.heap.size (.slice s1 d.codes.length c1) (.slice s2 d.cores.length c2) (.slice s3 d.mem.length c3) (.slice s4 d.tr.length c4)):=A1.out.keep (hb2.mono (Nat.le_refl _)) A1.out.z
 have B2:Hid (B4 w2 (w.heap.size+1) (.slice t1 d.codes.length f1) (.slice t2 d.cores.length f2) (.slice t3 d.mem.length f3) (.slice t4 d.tr.length f4)):=B1.out.keep (hb2.mono (Nat.le_refl _)) B1.out.z
 have K2:Hid (Below w.heap.size w w2):=K1.out.trans (hb2.mono (by omega))
 clear hb2
 have a2:=A2.out
 have b2:=B2.out
 obtain ⟨p0,p1,p2,p3,p4⟩:=a2
 obtain ⟨q0,q1,q2,q3,q4⟩:=b2
 go_wp2_with fail
 refine (eqMemory_alike s3 t3 c3 f3 lo hi lo' hi' d.mem w2 (H.out.keep (Keep.of_below K2.out hB)).2.2.1 (H'.out.keep (Keep.of_below K2.out hB')).2.2.1 (by omega) (by omega) F3).mono ?_
 rintro e w3 ⟨rfl,hb3⟩
 have A3:Hid (B4 w3 w.heap.size (.slice s1 d.codes.length c1) (.slice s2 d.cores.length c2) (.slice s3 d.mem.length c3) (.slice s4 d.tr.length c4)):=A2.out.keep (hb3.mono (Nat.le_refl _)) A2.out.z
 have B3:Hid (B4 w3 (w.heap.size+1) (.slice t1 d.codes.length f1) (.slice t2 d.cores.length f2) (.slice t3 d.mem.length f3) (.slice t4 d.tr.length f4)):=B2.out.keep (hb3.mono (Nat.le_refl _)) B2.out.z
 have K3:Hid (Below w.heap.size w w3):=K2.out.trans (hb3.mono (by omega))
 clear hb3
 have a3:=A3.out
 have b3:=B3.out
 obtain ⟨p0,p1,p2,p3,p4⟩:=a3
 obtain ⟨q0,q1,q2,q3,q4⟩:=b3
 go_wp2_with fail
 refine (eqNoteS_alike s4 t4 c4 f4 lo hi lo' hi' d.tr w3 (H.out.keep (Keep.of_below K3.out hB)).2.2.2 (H'.out.keep (Keep.of_below K3.out hB')).2.2.2 (by omega) (by omega) F4).mono ?_
 rintro e w4 ⟨rfl,hb4⟩
 have A4:Hid (B4 w4 w.heap.size (.slice s1 d.codes.length c1) (.slice s2 d.cores.length c2) (.slice s3 d.mem.length c3) (.slice s4 d.tr.length c4)):=A3.out.keep (hb4.mono (Nat.le_refl _)) A3.out.z
 have B4:Hid (B4 w4 (w.heap.size+1) (.slice t1 d.codes.length f1) (.slice t2 d.cores.length f2) (.slice t3 d.mem.length f3) (.slice t4 d.tr.length f4)):=B3.out.keep (hb4.mono (Nat.le_refl _)) B3.out.z
 have K4:Hid (Below w.heap.size w w4):=K3.out.trans (hb4.mono (by omega))
 clear hb4
 have a4:=A4.out
 have b4:=B4.out
 obtain ⟨p0,p1,p2,p3,p4⟩:=a4
 obtain ⟨q0,q1,q2,q3,q4⟩:=b4
 go_wp2
 go_ret
 exact ⟨rfl,K4.out⟩
end
end
section
set_option linter.unusedSimpArgs false
set_option linter.unusedVariables false
set_option maxRecDepth 100000
section
open Go.RowKit
set_option maxHeartbeats 1000000 in
theorem markSt_any (x : VS) (lo hi : Nat) (q : Int) (w : World) (hok : x.n * 5 = 0 ∨ Somewhere x.s) (hint : ∀ a ∈ vAs (x.wide 5), IntC w lo hi a) (hn : x.n * 5 ≤ 10000000) (hq : 0 ≤ q) (hq' : q ≤ 1000000000000000) :
  Calls Tryz.prog 75 #[.slice x.s x.n x.c,.int .i64 q] w fun e w'=>e=.returned (.int .i64 (q+(x.n * 5:Nat)))∧Wrote (vAs (x.wide 5)) q w w':=by
 obtain ⟨s,n,c⟩:=x
 have HI:Hid (∀ a∈vAs ⟨s,n * 5,c⟩,IntC w lo hi a):=hint
 clear hint
 simp only at hok hn
 show Calls _ _ _ _ fun e w'=>e=.returned (.int .i64 (q+(n * 5:Nat)))∧Wrote (vAs ⟨s,n * 5,c⟩) q w w'
 go_enter Tryz.func75,Tryz.ntmps75
 go_wp2
 go_loopw [1,5] (fun a i wr=>∃ (k:Nat) (z:Int),k≤n∧i=.int .i64 k∧a=.int .i64 z∧0≤z∧z≤2000000000000000∧Hid (z=q+(k * 5:Nat))∧Wrote (vAs ⟨s,k * 5,c⟩) q w wr) (fun _ i _=>n - (intOf i).toNat)
 case atStart=>exact ⟨0,q,Nat.zero_le _,rfl,rfl,hq,by omega,show _=_ by simp,by simpa [vAs] using Wrote.refl q w⟩
 case round=>
  obtain ⟨k,z,hk,rfl,rfl,hz0,hz1,HZ,hw⟩:=hrel
  have HW:Hid (Wrote (vAs ⟨s,k * 5,c⟩) q w wr):=hw
  clear hw
  by_cases hlt:k < n
  ·obtain ⟨g,o,rfl⟩:Somewhere s:=by rcases hok with h | h<;>first | omega | exact h
   have hm:∀ j,j < 5→∃ z,wr.cell? ⟨g,o+k * 5+j,none⟩=some (.int .i64 z)∧wr.frozen? ⟨g,o+k * 5+j,none⟩=false:=fun j hj=>by
    obtain ⟨⟨z,hz⟩,hf,-,-⟩:=HW.out.intc (HI.out ⟨g,o+k * 5+j,none⟩ (mem_vAs.2 ⟨k * 5+j,by show _ < n * 5;omega,by simp [adr]<;>omega⟩))
    exact ⟨z,hz,hf⟩
   obtain ⟨y0,c0,f0⟩:=hm 0 (by omega)
   obtain ⟨y1,c1,f1⟩:=hm 1 (by omega)
   obtain ⟨y2,c2,f2⟩:=hm 2 (by omega)
   obtain ⟨y3,c3,f3⟩:=hm 3 (by omega)
   obtain ⟨y4,c4,f4⟩:=hm 4 (by omega)
   rw [Nat.add_zero] at c0 f0
   have b0:(0:Int)≤(k:Int):=by omega
   have b1:(k:Int) < (n:Int):=by omega
   clear hm
   go_wp2
   go_roundw
   case rel=>
    refine ⟨k+1,_,by omega,by go_num,rfl,by omega,by have:=HZ.out;omega,by show _=_;have:=HZ.out;push_cast;omega,?_⟩
    have e:vAs ⟨some ⟨g,o,none⟩,(k+1) * 5,c⟩=((((vAs ⟨some ⟨g,o,none⟩,k * 5,c⟩++[⟨g,o+k * 5,none⟩])++[⟨g,o+k * 5+1,none⟩])++[⟨g,o+k * 5+2,none⟩])++[⟨g,o+k * 5+3,none⟩])++[⟨g,o+k * 5+4,none⟩]:=by
     have e1:(k+1) * 5=k * 5+5:=by omega
     rw [e1]
     simp [vAs,List.range_add,List.range_succ,adr,Nat.add_assoc]
    rw [e]
    have nm:∀ j,(⟨g,o+k * 5+j,none⟩:Addr)∉vAs ⟨some ⟨g,o,none⟩,k * 5,c⟩:=fun j hm=>by
     obtain ⟨i,hi',ei⟩:=mem_vAs.1 hm
     simp [adr] at ei
     simp at hi'
     omega
    have hz:=HZ.out
    have W0:=HW.out.push (a:=⟨g,o+k * 5,none⟩) (z:=z) (fun hm=>by
     have q:=nm 0;first | exact q hm | (simp at hm;first | exact q hm | exact q (by simpa using hm) | omega)) (by rw [c0];rfl) (by simp [vAs_len];omega)
    have W1:=W0.push (a:=⟨g,o+k * 5+1,none⟩) (z:=z+1) (fun hm=>by
     have q:=nm 1;first | exact q hm | (simp at hm;first | exact q hm | exact q (by simpa using hm) | omega)) (by refine setC_some ?_;rw [c1];rfl) (by simp [vAs_len];omega)
    have W2:=W1.push (a:=⟨g,o+k * 5+2,none⟩) (z:=z+1+1) (fun hm=>by
     have q:=nm 2;first | exact q hm | (simp at hm;first | exact q hm | exact q (by simpa using hm) | omega)) (by refine setC_some ?_;refine setC_some ?_;rw [c2];rfl) (by simp [vAs_len];omega)
    have W3:=W2.push (a:=⟨g,o+k * 5+3,none⟩) (z:=z+1+1+1) (fun hm=>by
     have q:=nm 3;first | exact q hm | (simp at hm;first | exact q hm | exact q (by simpa using hm) | omega)) (by refine setC_some ?_;refine setC_some ?_;refine setC_some ?_;rw [c3];rfl) (by simp [vAs_len];omega)
    have W4:=W3.push (a:=⟨g,o+k * 5+4,none⟩) (z:=z+1+1+1+1) (fun hm=>by
     have q:=nm 4;first | exact q hm | (simp at hm;first | exact q hm | exact q (by simpa using hm) | omega)) (by refine setC_some ?_;refine setC_some ?_;refine setC_some ?_;refine setC_some ?_;rw [c4];rfl) (by simp [vAs_len];omega)
    exact W4
   case measure=>simp [intOf];omega
  ·go_wp2
   go_ret
   have e:k=n:=by omega
   subst e
   exact ⟨by rw [HZ.out];rfl,HW.out⟩
set_option maxHeartbeats 1000000 in
theorem heldSt_any (x : VS) (q : Int) (w : World) (hok : x.n * 5 = 0 ∨ Somewhere x.s) (hm : MarkedA w (vAs (x.wide 5)) q) (hn : x.n * 5 ≤ 10000000) (hq : 0 ≤ q) (hq' : q ≤ 1000000000000000) :
  Calls Tryz.prog 77 #[.slice x.s x.n x.c,.int .i64 q] w fun e w'=>e=.returned (.int .i64 (q+(x.n * 5:Nat)))∧w'=w:=by
 obtain ⟨s,n,c⟩:=x
 have HI:Hid (MarkedA w (vAs ⟨s,n * 5,c⟩) q):=hm
 clear hm
 simp only at hok hn
 show Calls _ _ _ _ fun e w'=>e=.returned (.int .i64 (q+(n * 5:Nat)))∧w'=w
 go_enter Tryz.func77,Tryz.ntmps77
 go_wp2
 go_loop [1,5] (fun a i=>∃ (k:Nat) (z:Int),k≤n∧i=.int .i64 k∧a=.int .i64 z∧0≤z∧z≤2000000000000000∧Hid (z=q+(k * 5:Nat))) (fun _ i=>n - (intOf i).toNat)
 case atStart=>exact ⟨0,q,Nat.zero_le _,rfl,rfl,hq,by omega,show _=_ by simp⟩
 case round=>
  obtain ⟨k,z,hk,rfl,rfl,hz0,hz1,HZ⟩:=hrel
  by_cases hlt:k < n
  ·obtain ⟨g,o,rfl⟩:Somewhere s:=by rcases hok with h | h<;>first | omega | exact h
   have hm:∀ j,j < 5→w.cell? ⟨g,o+k * 5+j,none⟩=some (.int .i64 (z+j)):=fun j hj=>by
    have:=HI.out (k * 5+j) ⟨g,o+k * 5+j,none⟩ (by rw [vAs_at (by show _ < n * 5;omega)];simp [adr]<;>omega)
    rw [this,HZ.out]
    congr 2
    first | omega | (push_cast;omega)
   have c0:w.cell? ⟨g,o+k * 5,none⟩=some (.int .i64 z):=by have:=hm 0 (by omega);simpa using this
   have c1:w.cell? ⟨g,o+k * 5+1,none⟩=some (.int .i64 (z+1)):=by have:=hm 1 (by omega);first | (rw [this];done) | (rw [this];congr 2<;>omega)
   have c2:w.cell? ⟨g,o+k * 5+2,none⟩=some (.int .i64 (z+1+1)):=by have:=hm 2 (by omega);first | (rw [this];done) | (rw [this];congr 2<;>omega)
   have c3:w.cell? ⟨g,o+k * 5+3,none⟩=some (.int .i64 (z+1+1+1)):=by have:=hm 3 (by omega);first | (rw [this];done) | (rw [this];congr 2<;>omega)
   have c4:w.cell? ⟨g,o+k * 5+4,none⟩=some (.int .i64 (z+1+1+1+1)):=by have:=hm 4 (by omega);first | (rw [this];done) | (rw [this];congr 2<;>omega)
   have n0:((z) !=(z))=false:=by simp
   have n1:((z+1) !=(z+1))=false:=by simp
   have n2:((z+1+1) !=(z+1+1))=false:=by simp
   have n3:((z+1+1+1) !=(z+1+1+1))=false:=by simp
   have n4:((z+1+1+1+1) !=(z+1+1+1+1))=false:=by simp
   have b0:(0:Int)≤(k:Int):=by omega
   have b1:(k:Int) < (n:Int):=by omega
   clear hm
   go_wp2
   go_round
   case rel=>exact ⟨k+1,_,by omega,by go_num,rfl,by omega,by have:=HZ.out;omega,by show _=_;have:=HZ.out;push_cast;omega⟩
   case measure=>simp [intOf];omega
  ·go_wp2
   go_ret
   have e:k=n:=by omega
   subst e
   exact ⟨by rw [HZ.out];rfl,rfl⟩
set_option maxHeartbeats 1000000 in
theorem markNt_any (x : VS) (lo hi : Nat) (q : Int) (w : World) (hok : x.n * 2 = 0 ∨ Somewhere x.s) (hint : ∀ a ∈ vAs (x.wide 2), IntC w lo hi a) (hn : x.n * 2 ≤ 10000000) (hq : 0 ≤ q) (hq' : q ≤ 1000000000000000) :
  Calls Tryz.prog 42 #[.slice x.s x.n x.c,.int .i64 q] w fun e w'=>e=.returned (.int .i64 (q+(x.n * 2:Nat)))∧Wrote (vAs (x.wide 2)) q w w':=by
 obtain ⟨s,n,c⟩:=x
 have HI:Hid (∀ a∈vAs ⟨s,n * 2,c⟩,IntC w lo hi a):=hint
 clear hint
 simp only at hok hn
 show Calls _ _ _ _ fun e w'=>e=.returned (.int .i64 (q+(n * 2:Nat)))∧Wrote (vAs ⟨s,n * 2,c⟩) q w w'
 go_enter Tryz.func42,Tryz.ntmps42
 go_wp2
 go_loopw [1,5] (fun a i wr=>∃ (k:Nat) (z:Int),k≤n∧i=.int .i64 k∧a=.int .i64 z∧0≤z∧z≤2000000000000000∧Hid (z=q+(k * 2:Nat))∧Wrote (vAs ⟨s,k * 2,c⟩) q w wr) (fun _ i _=>n - (intOf i).toNat)
 case atStart=>exact ⟨0,q,Nat.zero_le _,rfl,rfl,hq,by omega,show _=_ by simp,by simpa [vAs] using Wrote.refl q w⟩
 case round=>
  obtain ⟨k,z,hk,rfl,rfl,hz0,hz1,HZ,hw⟩:=hrel
  have HW:Hid (Wrote (vAs ⟨s,k * 2,c⟩) q w wr):=hw
  clear hw
  by_cases hlt:k < n
  ·obtain ⟨g,o,rfl⟩:Somewhere s:=by rcases hok with h | h<;>first | omega | exact h
   have hm:∀ j,j < 2→∃ z,wr.cell? ⟨g,o+k * 2+j,none⟩=some (.int .i64 z)∧wr.frozen? ⟨g,o+k * 2+j,none⟩=false:=fun j hj=>by
    obtain ⟨⟨z,hz⟩,hf,-,-⟩:=HW.out.intc (HI.out ⟨g,o+k * 2+j,none⟩ (mem_vAs.2 ⟨k * 2+j,by show _ < n * 2;omega,by simp [adr]<;>omega⟩))
    exact ⟨z,hz,hf⟩
   obtain ⟨y0,c0,f0⟩:=hm 0 (by omega)
   obtain ⟨y1,c1,f1⟩:=hm 1 (by omega)
   rw [Nat.add_zero] at c0 f0
   have b0:(0:Int)≤(k:Int):=by omega
   have b1:(k:Int) < (n:Int):=by omega
   clear hm
   go_wp2
   go_roundw
   case rel=>
    refine ⟨k+1,_,by omega,by go_num,rfl,by omega,by have:=HZ.out;omega,by show _=_;have:=HZ.out;push_cast;omega,?_⟩
    have e:vAs ⟨some ⟨g,o,none⟩,(k+1) * 2,c⟩=(vAs ⟨some ⟨g,o,none⟩,k * 2,c⟩++[⟨g,o+k * 2,none⟩])++[⟨g,o+k * 2+1,none⟩]:=by
     have e1:(k+1) * 2=k * 2+2:=by omega
     rw [e1]
     simp [vAs,List.range_add,List.range_succ,adr,Nat.add_assoc]
    rw [e]
    have nm:∀ j,(⟨g,o+k * 2+j,none⟩:Addr)∉vAs ⟨some ⟨g,o,none⟩,k * 2,c⟩:=fun j hm=>by
     obtain ⟨i,hi',ei⟩:=mem_vAs.1 hm
     simp [adr] at ei
     simp at hi'
     omega
    have hz:=HZ.out
    have W0:=HW.out.push (a:=⟨g,o+k * 2,none⟩) (z:=z) (fun hm=>by
     have q:=nm 0;first | exact q hm | (simp at hm;first | exact q hm | exact q (by simpa using hm) | omega)) (by rw [c0];rfl) (by simp [vAs_len];omega)
    have W1:=W0.push (a:=⟨g,o+k * 2+1,none⟩) (z:=z+1) (fun hm=>by
     have q:=nm 1;first | exact q hm | (simp at hm;first | exact q hm | exact q (by simpa using hm) | omega)) (by refine setC_some ?_;rw [c1];rfl) (by simp [vAs_len];omega)
    exact W1
   case measure=>simp [intOf];omega
  ·go_wp2
   go_ret
   have e:k=n:=by omega
   subst e
   exact ⟨by rw [HZ.out];rfl,HW.out⟩
set_option maxHeartbeats 1000000 in
theorem heldNt_any (x : VS) (q : Int) (w : World) (hok : x.n * 2 = 0 ∨ Somewhere x.s) (hm : MarkedA w (vAs (x.wide 2)) q) (hn : x.n * 2 ≤ 10000000) (hq : 0 ≤ q) (hq' : q ≤ 1000000000000000) :
  Calls Tryz.prog 46 #[.slice x.s x.n x.c,.int .i64 q] w fun e w'=>e=.returned (.int .i64 (q+(x.n * 2:Nat)))∧w'=w:=by
 obtain ⟨s,n,c⟩:=x
 have HI:Hid (MarkedA w (vAs ⟨s,n * 2,c⟩) q):=hm
 clear hm
 simp only at hok hn
 show Calls _ _ _ _ fun e w'=>e=.returned (.int .i64 (q+(n * 2:Nat)))∧w'=w
 go_enter Tryz.func46,Tryz.ntmps46
 go_wp2
 go_loop [1,5] (fun a i=>∃ (k:Nat) (z:Int),k≤n∧i=.int .i64 k∧a=.int .i64 z∧0≤z∧z≤2000000000000000∧Hid (z=q+(k * 2:Nat))) (fun _ i=>n - (intOf i).toNat)
 case atStart=>exact ⟨0,q,Nat.zero_le _,rfl,rfl,hq,by omega,show _=_ by simp⟩
 case round=>
  obtain ⟨k,z,hk,rfl,rfl,hz0,hz1,HZ⟩:=hrel
  by_cases hlt:k < n
  ·obtain ⟨g,o,rfl⟩:Somewhere s:=by rcases hok with h | h<;>first | omega | exact h
   have hm:∀ j,j < 2→w.cell? ⟨g,o+k * 2+j,none⟩=some (.int .i64 (z+j)):=fun j hj=>by
    have:=HI.out (k * 2+j) ⟨g,o+k * 2+j,none⟩ (by rw [vAs_at (by show _ < n * 2;omega)];simp [adr]<;>omega)
    rw [this,HZ.out]
    congr 2
    first | omega | (push_cast;omega)
   have c0:w.cell? ⟨g,o+k * 2,none⟩=some (.int .i64 z):=by have:=hm 0 (by omega);simpa using this
   have c1:w.cell? ⟨g,o+k * 2+1,none⟩=some (.int .i64 (z+1)):=by have:=hm 1 (by omega);first | (rw [this];done) | (rw [this];congr 2<;>omega)
   have n0:((z) !=(z))=false:=by simp
   have n1:((z+1) !=(z+1))=false:=by simp
   have b0:(0:Int)≤(k:Int):=by omega
   have b1:(k:Int) < (n:Int):=by omega
   clear hm
   go_wp2
   go_round
   case rel=>exact ⟨k+1,_,by omega,by go_num,rfl,by omega,by have:=HZ.out;omega,by show _=_;have:=HZ.out;push_cast;omega⟩
   case measure=>simp [intOf];omega
  ·go_wp2
   go_ret
   have e:k=n:=by omega
   subst e
   exact ⟨by rw [HZ.out];rfl,rfl⟩
end
section
open Go.RowKit
theorem recC_as (s:Option Addr) (x:VS) (j:Nat):recAs s [.r x 5] (j * TC.length)=vAs (x.wide 5):=by simp [recAs,fAs]
theorem gsh_int {w:World} {lo hi:Nat} {s:Option Addr} {T:List (Option Nat)} {R:List (List FS)} {j:Nat} {x:List FS} (h:GSh w lo hi s T R) (hx:R[j]? =some x):(∀ a∈gAs s T.length (R.take j) 0,∃ z,w.cell? a=some (.int .i64 z))∧(∀ a∈recAs s x (j * T.length),IntC w lo hi a)∧(∀ a∈gAs s T.length (R.take j) 0,a∉recAs s x (j * T.length))∧(recAs s x (j * T.length)).Nodup:=by
 have sp:=gAs_split (s:=s) (wd:=T.length) hx
 have nod:=h.d
 rw [sp] at nod
 refine ⟨fun a ha=>(h.int a (by rw [sp];simp [ha])).1,fun a ha=>h.int a (by rw [sp];simp [ha]),fun a ha hm=>(List.nodup_append.1 nod).2.2 _ ha _ (by simp [hm]) rfl,(List.nodup_append.1 (List.nodup_append.1 nod).2.1).1⟩
theorem marked_at {w:World} {s:Option Addr} {wd:Nat} {R:List (List FS)} {j:Nat} {x:List FS} {q:Int} (hm:MarkedA w (gAs s wd R 0) q) (hx:R[j]? =some x):MarkedA w (recAs s x (j * wd)) (q+(gAs s wd (R.take j) 0).length):=fun p a ha=>by
 have hp:=(List.getElem?_eq_some_iff.1 ha).1
 have:=hm ((gAs s wd (R.take j) 0).length+p) a (by
  rw [gAs_split hx,List.getElem?_append_right (by omega)]
  have e:(gAs s wd (R.take j) 0).length+p - (gAs s wd (R.take j) 0).length=p:=by omega
  rw [e,List.getElem?_append_left hp]
  exact ha)
 rw [this]
 congr 2
 omega
set_option maxHeartbeats 1000000 in
theorem markCs_any (so : Option Addr) (R : List (List FS)) (c lo hi : Nat) (q : Int) (w : World) (h : GSh w lo hi so TC R) (hs : R.length ≤ 2000000) (hn : (gAs so TC.length R 0).length ≤ 10000000) (hq : 0 ≤ q) (hq' : q ≤ 10000000000000) :
  Calls Tryz.prog 39 #[.slice so R.length c,.int .i64 q] w fun e w'=>e=.returned (.int .i64 (q+(gAs so TC.length R 0).length))∧Wrote (gAs so TC.length R 0) q w w':=by
 have H:Hid (GSh w lo hi so TC R):=h
 have HN:Hid ((gAs so TC.length R 0).length≤10000000):=hn
 clear h hn
 go_enter Tryz.func39,Tryz.ntmps39
 go_wp2
 go_loopw [1,5] (fun a i wr=>∃ (j:Nat) (z:Int),j≤R.length∧i=.int .i64 j∧a=.int .i64 z∧0≤z∧z≤20000000000000∧Hid (z=q+(gAs so TC.length (R.take j) 0).length)∧Wrote (gAs so TC.length (R.take j) 0) q w wr) (fun _ i _=>R.length - (intOf i).toNat)
 case atStart=>exact ⟨0,q,Nat.zero_le _,rfl,rfl,hq,by omega,show _=_ by simp [gAs],by simpa [gAs] using Wrote.refl q w⟩
 case round=>
  obtain ⟨j,z,hj,rfl,rfl,hz0,hz1,HZ,hw⟩:=hrel
  have HW:Hid (Wrote (gAs so TC.length (R.take j) 0) q w wr):=hw
  clear hw
  by_cases hlt:j < R.length
  ·obtain ⟨r,hx⟩:∃ x,R[j]? =some x:=⟨_,List.getElem?_eq_getElem hlt⟩
   obtain ⟨x,rfl⟩:=kindC (H.out.t j r hx)
   obtain ⟨g,o,rfl⟩:Somewhere so:=by rcases H.out.rok with h | h<;>first | (rw [h] at hlt;simp at hlt) | exact h
   obtain ⟨hA,hI,hD,-⟩:=gsh_int H.out hx
   have hs1:=HW.out.gsh hA H.out
   have fx:=hs1.c j _ 0 _ hx rfl
   obtain ⟨c1',-,ok1,in1⟩:=fx
   have c1:wr.cell? ⟨g,o+j,none⟩=some (.slice x.s x.n x.c):=by simpa [adr,TC] using c1'
   have OK:Hid (x.n * 5=0∨Somewhere x.s):=ok1
   have IN:Hid (∀ a∈vAs (x.wide 5),IntC wr lo hi a):=in1
   rw [recC_as] at hD
   have D2:Hid (∀ a∈gAs (some ⟨g,o,none⟩) TC.length (R.take j) 0,a∉vAs (x.wide 5)):=hD
   have TK':Hid (gAs (some ⟨g,o,none⟩) TC.length (R.take (j+1)) 0=gAs (some ⟨g,o,none⟩) TC.length (R.take j) 0++vAs (x.wide 5)):=by have q:=gAs_take (s:=some ⟨g,o,none⟩) (wd:=TC.length) hx;rw [recC_as] at q;exact q
   have HB:Hid ((gAs (some ⟨g,o,none⟩) TC.length (R.take j) 0).length+x.n * 5≤10000000):=by
    have h1:=gAs_long (s:=some ⟨g,o,none⟩) (wd:=TC.length) hx
    rw [recC_as,vAs_len] at h1
    have h2:=HN.out
    show _≤_
    simp [VS.wide] at h1
    omega
   have xn:x.n * 5≤10000000:=by have:=HB.out;omega
   have b0:(0:Int)≤(j:Int):=by omega
   have b1:(j:Int) < (R.length:Int):=by omega
   clear hA hs1 hx hI hD in1 ok1 c1'
   go_wp2_with fail
   refine (markSt_any x lo hi z wr OK.out IN.out xn hz0 (by omega)).mono ?_
   rintro e w2 ⟨rfl,hw2⟩
   have W2:Hid (Wrote (gAs (some ⟨g,o,none⟩) TC.length (R.take (j+1)) 0) q w w2):=by
    show Wrote _ _ _ _
    rw [TK'.out]
    exact HW.out.app (by rw [← HZ.out];exact hw2) D2.out
   have zz:0≤z+((x.n * 5:Nat):Int)∧z+((x.n * 5:Nat):Int)≤20000000000000:=by have h1:=HZ.out;have h2:=HB.out;omega
   have ZZ:Hid (z+((x.n * 5:Nat):Int)=q+(gAs (some ⟨g,o,none⟩) TC.length (R.take (j+1)) 0).length):=by
    show _=_
    rw [TK'.out,HZ.out]
    simp [vAs_len,VS.wide]
    omega
   clear hw2
   go_wp2
   go_roundw
   case rel=>exact ⟨j+1,_,by omega,by go_num,rfl,zz.1,zz.2,ZZ.out,W2.out⟩
   case measure=>simp [intOf];omega
  ·go_wp2
   go_ret
   have e:j=R.length:=by omega
   subst e
   have h1:=HW.out
   have h2:=HZ.out
   rw [List.take_length] at h1 h2
   exact ⟨by rw [h2];rfl,h1⟩
set_option maxHeartbeats 1000000 in
theorem heldCs_any (so : Option Addr) (R : List (List FS)) (c lo hi : Nat) (q : Int) (w : World) (h : GSh w lo hi so TC R) (hm : MarkedA w (gAs so TC.length R 0) q) (hs : R.length ≤ 2000000) (hn : (gAs so TC.length R 0).length ≤ 10000000) (hq : 0 ≤ q) (hq' : q ≤ 10000000000000) :
  Calls Tryz.prog 43 #[.slice so R.length c,.int .i64 q] w fun e w'=>e=.returned (.int .i64 (q+(gAs so TC.length R 0).length))∧w'=w:=by
 have H:Hid (GSh w lo hi so TC R):=h
 have HM:Hid (MarkedA w (gAs so TC.length R 0) q):=hm
 have HN:Hid ((gAs so TC.length R 0).length≤10000000):=hn
 clear h hn hm
 go_enter Tryz.func43,Tryz.ntmps43
 go_wp2
 go_loop [1,5] (fun a i=>∃ (j:Nat) (z:Int),j≤R.length∧i=.int .i64 j∧a=.int .i64 z∧0≤z∧z≤20000000000000∧Hid (z=q+(gAs so TC.length (R.take j) 0).length)) (fun _ i=>R.length - (intOf i).toNat)
 case atStart=>exact ⟨0,q,Nat.zero_le _,rfl,rfl,hq,by omega,show _=_ by simp [gAs]⟩
 case round=>
  obtain ⟨j,z,hj,rfl,rfl,hz0,hz1,HZ⟩:=hrel
  by_cases hlt:j < R.length
  ·obtain ⟨r,hx⟩:∃ x,R[j]? =some x:=⟨_,List.getElem?_eq_getElem hlt⟩
   obtain ⟨x,rfl⟩:=kindC (H.out.t j r hx)
   obtain ⟨g,o,rfl⟩:Somewhere so:=by rcases H.out.rok with h | h<;>first | (rw [h] at hlt;simp at hlt) | exact h
   obtain ⟨c1',-,ok1,-⟩:=H.out.c j _ 0 _ hx rfl
   have c1:w.cell? ⟨g,o+j,none⟩=some (.slice x.s x.n x.c):=by simpa [adr,TC] using c1'
   have OK:Hid (x.n * 5=0∨Somewhere x.s):=ok1
   have MR:Hid (MarkedA w (vAs (x.wide 5)) z):=by
    have q:=marked_at HM.out hx
    rw [recC_as,← HZ.out] at q
    exact q
   have TK':Hid (gAs (some ⟨g,o,none⟩) TC.length (R.take (j+1)) 0=gAs (some ⟨g,o,none⟩) TC.length (R.take j) 0++vAs (x.wide 5)):=by have q:=gAs_take (s:=some ⟨g,o,none⟩) (wd:=TC.length) hx;rw [recC_as] at q;exact q
   have HB:Hid ((gAs (some ⟨g,o,none⟩) TC.length (R.take j) 0).length+x.n * 5≤10000000):=by
    have h1:=gAs_long (s:=some ⟨g,o,none⟩) (wd:=TC.length) hx
    rw [recC_as,vAs_len] at h1
    have h2:=HN.out
    show _≤_
    simp [VS.wide] at h1
    omega
   have xn:x.n * 5≤10000000:=by have:=HB.out;omega
   have b0:(0:Int)≤(j:Int):=by omega
   have b1:(j:Int) < (R.length:Int):=by omega
   clear hx ok1 c1'
   go_wp2_with fail
   refine (heldSt_any x z w OK.out MR.out xn hz0 (by omega)).mono ?_
   rintro e w9 ⟨rfl,hw9⟩
   subst w9
   have zz:0≤z+((x.n * 5:Nat):Int)∧z+((x.n * 5:Nat):Int)≤20000000000000:=by have h1:=HZ.out;have h2:=HB.out;omega
   have zn:¬ z+((x.n * 5:Nat):Int) < 0:=by omega
   have ZZ:Hid (z+((x.n * 5:Nat):Int)=q+(gAs (some ⟨g,o,none⟩) TC.length (R.take (j+1)) 0).length):=by
    show _=_
    rw [TK'.out,HZ.out]
    simp [vAs_len,VS.wide]
    omega
   go_wp2
   go_round
   case rel=>exact ⟨j+1,_,by omega,by go_num,rfl,zz.1,zz.2,ZZ.out⟩
   case measure=>simp [intOf];omega
  ·go_wp2
   go_ret
   have e:j=R.length:=by omega
   subst e
   have h2:=HZ.out
   rw [List.take_length] at h2
   exact ⟨by rw [h2];rfl,rfl⟩
end
section
open Go.RowKit
theorem recK_as (s:Option Addr) (x y:VS) (j:Nat):recAs s [.i,.r x 1,.r y 1,.i] (j * TK.length)=adr s (j * 4)::(vAs x++(vAs y++[adr s (j * 4+3)])):=by
 simp [recAs,fAs,wide_one,TK]
set_option maxHeartbeats 2000000 in
theorem markKs_any (so : Option Addr) (R : List (List FS)) (c lo hi : Nat) (q : Int) (w : World) (h : GSh w lo hi so TK R) (hs : R.length ≤ 2000000) (hn : (gAs so TK.length R 0).length ≤ 2000000 * 4) (hv : ∀ r ∈ R, ∀ x e, FS.r x e ∈ r → x.n ≤ 2000000) (hq : 0 ≤ q) (hq' : q ≤ 10000000000000) :
  Calls Tryz.prog 40 #[.slice so R.length c,.int .i64 q] w fun e w'=>e=.returned (.int .i64 (q+(gAs so TK.length R 0).length))∧Wrote (gAs so TK.length R 0) q w w':=by
 have H:Hid (GSh w lo hi so TK R):=h
 have HN:Hid ((gAs so TK.length R 0).length≤2000000 * 4):=hn
 have HV:Hid (∀ r∈R,∀ x e,FS.r x e∈r→x.n≤2000000):=hv
 clear h hn hv
 go_enter Tryz.func40,Tryz.ntmps40
 go_wp2
 go_loopw [1,5] (fun a i wr=>∃ (j:Nat) (z:Int),j≤R.length∧i=.int .i64 j∧a=.int .i64 z∧0≤z∧z≤20000000000000∧Hid (z=q+(gAs so TK.length (R.take j) 0).length)∧Wrote (gAs so TK.length (R.take j) 0) q w wr) (fun _ i _=>R.length - (intOf i).toNat)
 case atStart=>exact ⟨0,q,Nat.zero_le _,rfl,rfl,hq,by omega,show _=_ by simp [gAs],by simpa [gAs] using Wrote.refl q w⟩
 case round=>
  obtain ⟨j,z,hj,rfl,rfl,hz0,hz1,HZ,hw⟩:=hrel
  have HW:Hid (Wrote (gAs so TK.length (R.take j) 0) q w wr):=hw
  clear hw
  by_cases hlt:j < R.length
  ·obtain ⟨r,hx⟩:∃ x,R[j]? =some x:=⟨_,List.getElem?_eq_getElem hlt⟩
   obtain ⟨x,y,rfl⟩:=kindK (H.out.t j r hx)
   obtain ⟨g,o,rfl⟩:Somewhere so:=by rcases H.out.rok with h | h<;>first | (rw [h] at hlt;simp at hlt) | exact h
   obtain ⟨hA,hI,hD,hN⟩:=gsh_int H.out hx
   have hs1:=HW.out.gsh hA H.out
   have xn:x.n≤2000000:=HV.out _ (List.mem_of_getElem? hx) x 1 (by simp)
   have yn:y.n≤2000000:=HV.out _ (List.mem_of_getElem? hx) y 1 (by simp)
   have k0:=hs1.c j _ 0 _ hx rfl
   have k1:=hs1.c j _ 1 _ hx rfl
   have k2:=hs1.c j _ 2 _ hx rfl
   have k3:=hs1.c j _ 3 _ hx rfl
   have e0:adr (some ⟨g,o,none⟩) (j * TK.length+0)=⟨g,o+j * 4,none⟩:=rfl
   have e1:adr (some ⟨g,o,none⟩) (j * TK.length+1)=⟨g,o+j * 4+1,none⟩:=rfl
   have e2:adr (some ⟨g,o,none⟩) (j * TK.length+2)=⟨g,o+j * 4+2,none⟩:=rfl
   have e3:adr (some ⟨g,o,none⟩) (j * TK.length+3)=⟨g,o+j * 4+3,none⟩:=rfl
   rw [e0] at k0
   rw [e1] at k1
   rw [e2] at k2
   rw [e3] at k3
   obtain ⟨⟨z0,c0⟩,f0,-,-⟩:=k0
   obtain ⟨c1,-,ok1,in1⟩:=k1
   obtain ⟨c2,-,ok2,in2⟩:=k2
   obtain ⟨⟨z3,c3⟩,f3,-,-⟩:=k3
   rw [Nat.mul_one] at ok1 ok2
   rw [wide_one] at in1 in2
   rw [recK_as] at hD hN
   have ea:adr (some ⟨g,o,none⟩) (j * 4)=⟨g,o+j * 4,none⟩:=rfl
   have eb:adr (some ⟨g,o,none⟩) (j * 4+3)=⟨g,o+j * 4+3,none⟩:=rfl
   rw [ea,eb] at hD hN
   have TK':Hid (gAs (some ⟨g,o,none⟩) TK.length (R.take (j+1)) 0=gAs (some ⟨g,o,none⟩) TK.length (R.take j) 0++((⟨g,o+j * 4,none⟩:Addr)::(vAs x++(vAs y++[(⟨g,o+j * 4+3,none⟩:Addr)])))):=by have q:=gAs_take (s:=some ⟨g,o,none⟩) (wd:=TK.length) hx;rw [recK_as] at q;exact q
   have HB:Hid ((gAs (some ⟨g,o,none⟩) TK.length (R.take j) 0).length+(2+x.n+y.n)≤2000000 * 4):=by
    have h1:=gAs_long (s:=some ⟨g,o,none⟩) (wd:=TK.length) hx
    rw [recK_as] at h1
    have h2:=HN.out
    show _≤_
    simp [vAs_len] at h1
    omega
   /- the four steps -/
   obtain ⟨n1,hN1⟩:=List.nodup_cons.1 hN
   obtain ⟨nx,hN2,nxy⟩:=List.nodup_append.1 hN1
   obtain ⟨ny,-,ny3⟩:=List.nodup_append.1 hN2
   have D0:(⟨g,o+j * 4,none⟩:Addr)∉gAs (some ⟨g,o,none⟩) TK.length (R.take j) 0:=fun hm=>hD _ hm (by simp)
   have W1:Hid (Wrote (gAs (some ⟨g,o,none⟩) TK.length (R.take j) 0++[(⟨g,o+j * 4,none⟩:Addr)]) q w (wr.setCell ⟨g,o+j * 4,none⟩ (.int .i64 z))):=HW.out.push D0 (by rw [c0];rfl) HZ.out
   have DX:Hid (∀ a∈gAs (some ⟨g,o,none⟩) TK.length (R.take j) 0++[(⟨g,o+j * 4,none⟩:Addr)],a∉vAs x):=fun a ha hm=>by
    rcases List.mem_append.1 ha with ha | ha
    ·exact hD a ha (by simp [hm])
    ·simp at ha
     subst ha
     exact n1 (by simp [hm])
   have DY:Hid (∀ a∈(gAs (some ⟨g,o,none⟩) TK.length (R.take j) 0++[(⟨g,o+j * 4,none⟩:Addr)])++vAs x,a∉vAs y):=fun a ha hm=>by
    rcases List.mem_append.1 ha with ha | ha
    ·rcases List.mem_append.1 ha with ha | ha
     ·exact hD a ha (by simp [hm])
     ·simp at ha
      subst ha
      exact n1 (by simp [hm])
    ·exact nxy a ha a (by simp [hm]) rfl
   have D3:Hid ((⟨g,o+j * 4+3,none⟩:Addr)∉((gAs (some ⟨g,o,none⟩) TK.length (R.take j) 0++[(⟨g,o+j * 4,none⟩:Addr)])++vAs x)++vAs y):=fun ha=>by
    rcases List.mem_append.1 ha with ha | ha
    ·rcases List.mem_append.1 ha with ha | ha
     ·rcases List.mem_append.1 ha with ha | ha
      ·exact hD _ ha (by simp)
      ·simp at ha
     ·exact nxy _ ha _ (by simp) rfl
    ·exact ny3 _ ha _ (by simp) rfl
   have hA1:∀ a∈gAs (some ⟨g,o,none⟩) TK.length (R.take j) 0++[(⟨g,o+j * 4,none⟩:Addr)],∃ z,w.cell? a=some (.int .i64 z):=fun a ha=>by
    rcases List.mem_append.1 ha with ha | ha
    ·exact hA a ha
    ·simp at ha
     subst ha
     have q:=(H.out.c j _ 0 _ hx rfl)
     rw [e0] at q
     exact q.1
   have S2:=W1.out.gsh hA1 H.out
   have OK1:Hid (x.n=0∨Somewhere x.s):=ok1
   have OK2:Hid (y.n=0∨Somewhere y.s):=ok2
   have IN1:Hid (∀ a∈vAs x,IntC (wr.setCell ⟨g,o+j * 4,none⟩ (.int .i64 z)) lo hi a):=fun a ha=>by
    have q:=(S2.c j _ 1 _ hx rfl).2.2.2
    rw [wide_one] at q
    exact q a ha
   have IN2:Hid (∀ a∈vAs y,IntC w lo hi a):=fun a ha=>by
    have q:=(H.out.c j _ 2 _ hx rfl).2.2.2
    rw [wide_one] at q
    exact q a ha
   have hA2:Hid (∀ a∈(gAs (some ⟨g,o,none⟩) TK.length (R.take j) 0++[(⟨g,o+j * 4,none⟩:Addr)])++vAs x,∃ z,w.cell? a=some (.int .i64 z)):=fun a ha=>by
    rcases List.mem_append.1 ha with ha | ha
    ·exact hA1 a ha
    ·have q:=(H.out.c j _ 1 _ hx rfl).2.2.2
     rw [wide_one] at q
     exact (q a ha).1
   have hA3:Hid (∀ a∈((gAs (some ⟨g,o,none⟩) TK.length (R.take j) 0++[(⟨g,o+j * 4,none⟩:Addr)])++vAs x)++vAs y,∃ z,w.cell? a=some (.int .i64 z)):=fun a ha=>by
    rcases List.mem_append.1 ha with ha | ha
    ·exact hA2.out a ha
    ·exact (IN2.out a ha).1
   have HX:Hid (R[j]? =some [.i,.r x 1,.r y 1,.i]):=hx
   have b0:(0:Int)≤(j:Int):=by omega
   have b1:(j:Int) < (R.length:Int):=by omega
   clear hA hs1 hx hI hD hN in1 in2 ok1 ok2 hA1 S2 n1 hN1 nx hN2 nxy ny ny3 D0 e0 e1 e2 e3 ea eb c3 f3 c2
   go_wp2_with fail
   refine (markI_any x lo hi (z+1) _ OK1.out IN1.out xn (by omega) (by omega)).mono ?_
   rintro e w2 ⟨rfl,hw2⟩
   have W2:Hid (Wrote ((gAs (some ⟨g,o,none⟩) TK.length (R.take j) 0++[(⟨g,o+j * 4,none⟩:Addr)])++vAs x) q w w2):=by
    refine W1.out.app ?_ DX.out
    have e:q+((gAs (some ⟨g,o,none⟩) TK.length (R.take j) 0++[(⟨g,o+j * 4,none⟩:Addr)]).length:Int)=z+1:=by have:=HZ.out;simp;omega
    rw [e]
    exact hw2
   clear hw2 c0 c1 f0
   have S2:=W2.out.gsh hA2.out H.out
   have k2:=(S2.c j _ 2 _ HX.out rfl).1
   have c2:w2.cell? ⟨g,o+j * 4+2,none⟩=some (.slice y.s y.n y.c):=k2
   have I2:Hid (∀ a∈vAs y,IntC w2 lo hi a):=fun a ha=>W2.out.intc (IN2.out a ha)
   have zz1:0≤z+1+(x.n:Int)∧z+1+(x.n:Int)≤30000000000000:=by omega
   clear S2 k2
   go_wp2_with fail
   refine (markI_any y lo hi (z+1+x.n) w2 OK2.out I2.out yn zz1.1 (by omega)).mono ?_
   rintro e w3 ⟨rfl,hw3⟩
   have W3:Hid (Wrote (((gAs (some ⟨g,o,none⟩) TK.length (R.take j) 0++[(⟨g,o+j * 4,none⟩:Addr)])++vAs x)++vAs y) q w w3):=by
    refine W2.out.app ?_ DY.out
    have e:q+(((gAs (some ⟨g,o,none⟩) TK.length (R.take j) 0++[(⟨g,o+j * 4,none⟩:Addr)])++vAs x).length:Int)=z+1+x.n:=by have:=HZ.out;simp [vAs_len];omega
    rw [e]
    exact hw3
   clear hw3 c2
   have S3:=W3.out.gsh hA3.out H.out
   have k3:=S3.c j _ 3 _ HX.out rfl
   obtain ⟨⟨z3,c3⟩,f3,-,-⟩:=k3
   have c3':w3.cell? ⟨g,o+j * 4+3,none⟩=some (.int .i64 z3):=c3
   have f3':w3.frozen? ⟨g,o+j * 4+3,none⟩=false:=f3
   have W4:Hid (Wrote (gAs (some ⟨g,o,none⟩) TK.length (R.take (j+1)) 0) q w (w3.setCell ⟨g,o+j * 4+3,none⟩ (.int .i64 (z+1+x.n+y.n)))):=by
    have q:=W3.out.push (z:=z+1+x.n+y.n) D3.out (by rw [c3'];rfl) (by have:=HZ.out;simp [vAs_len];omega)
    show Wrote _ _ _ _
    rw [TK'.out]
    simpa [List.append_assoc] using q
   have zz2:0≤z+1+(x.n:Int)+(y.n:Int)∧z+1+(x.n:Int)+(y.n:Int)≤30000000000000:=by omega
   have zz3:z+1+(x.n:Int)+(y.n:Int)+1≤20000000000000:=by have h1:=HZ.out;have h2:=HB.out;omega
   have ZZ:Hid (z+1+(x.n:Int)+(y.n:Int)+1=q+(gAs (some ⟨g,o,none⟩) TK.length (R.take (j+1)) 0).length):=by
    show _=_
    rw [TK'.out,HZ.out]
    simp [vAs_len]
    omega
   clear S3 c3 f3
   go_wp2
   go_roundw
   case rel=>exact ⟨j+1,_,by omega,by go_num,rfl,by omega,zz3,ZZ.out,W4.out⟩
   case measure=>simp [intOf];omega
  ·go_wp2
   go_ret
   have e:j=R.length:=by omega
   subst e
   have h1:=HW.out
   have h2:=HZ.out
   rw [List.take_length] at h1 h2
   exact ⟨by rw [h2];rfl,h1⟩
set_option maxHeartbeats 2000000 in
theorem heldKs_any (so : Option Addr) (R : List (List FS)) (c lo hi : Nat) (q : Int) (w : World) (h : GSh w lo hi so TK R) (hm : MarkedA w (gAs so TK.length R 0) q) (hs : R.length ≤ 2000000) (hn : (gAs so TK.length R 0).length ≤ 2000000 * 4) (hv : ∀ r ∈ R, ∀ x e, FS.r x e ∈ r → x.n ≤ 2000000) (hq : 0 ≤ q) (hq' : q ≤ 10000000000000) :
  Calls Tryz.prog 44 #[.slice so R.length c,.int .i64 q] w fun e w'=>e=.returned (.int .i64 (q+(gAs so TK.length R 0).length))∧w'=w:=by
 have H:Hid (GSh w lo hi so TK R):=h
 have HM:Hid (MarkedA w (gAs so TK.length R 0) q):=hm
 have HN:Hid ((gAs so TK.length R 0).length≤2000000 * 4):=hn
 have HV:Hid (∀ r∈R,∀ x e,FS.r x e∈r→x.n≤2000000):=hv
 clear h hn hv hm
 go_enter Tryz.func44,Tryz.ntmps44
 go_wp2
 go_loop [1,5] (fun a i=>∃ (j:Nat) (z:Int),j≤R.length∧i=.int .i64 j∧a=.int .i64 z∧0≤z∧z≤20000000000000∧Hid (z=q+(gAs so TK.length (R.take j) 0).length)) (fun _ i=>R.length - (intOf i).toNat)
 case atStart=>exact ⟨0,q,Nat.zero_le _,rfl,rfl,hq,by omega,show _=_ by simp [gAs]⟩
 case round=>
  obtain ⟨j,z,hj,rfl,rfl,hz0,hz1,HZ⟩:=hrel
  by_cases hlt:j < R.length
  ·obtain ⟨r,hx⟩:∃ x,R[j]? =some x:=⟨_,List.getElem?_eq_getElem hlt⟩
   obtain ⟨x,y,rfl⟩:=kindK (H.out.t j r hx)
   obtain ⟨g,o,rfl⟩:Somewhere so:=by rcases H.out.rok with h | h<;>first | (rw [h] at hlt;simp at hlt) | exact h
   have xn:x.n≤2000000:=HV.out _ (List.mem_of_getElem? hx) x 1 (by simp)
   have yn:y.n≤2000000:=HV.out _ (List.mem_of_getElem? hx) y 1 (by simp)
   have k1:=H.out.c j _ 1 _ hx rfl
   have k2:=H.out.c j _ 2 _ hx rfl
   have e1:adr (some ⟨g,o,none⟩) (j * TK.length+1)=⟨g,o+j * 4+1,none⟩:=rfl
   have e2:adr (some ⟨g,o,none⟩) (j * TK.length+2)=⟨g,o+j * 4+2,none⟩:=rfl
   rw [e1] at k1
   rw [e2] at k2
   obtain ⟨c1,-,ok1,-⟩:=k1
   obtain ⟨c2,-,ok2,-⟩:=k2
   rw [Nat.mul_one] at ok1 ok2
   have MR:=marked_at HM.out hx
   rw [recK_as,← HZ.out] at MR
   have ea:adr (some ⟨g,o,none⟩) (j * 4)=⟨g,o+j * 4,none⟩:=rfl
   have eb:adr (some ⟨g,o,none⟩) (j * 4+3)=⟨g,o+j * 4+3,none⟩:=rfl
   rw [ea,eb] at MR
   have c0:w.cell? ⟨g,o+j * 4,none⟩=some (.int .i64 z):=by have q:=MR 0 _ rfl;simpa using q
   have X1:Hid (∀ i,i < x.n→w.cell? (adr x.s i)=some (.int .i64 (z+1+i))):=fun i hi'=>by
    have q:=MR (i+1) (adr x.s i) (by rw [List.getElem?_cons_succ,List.getElem?_append_left (by rw [vAs_len];exact hi')];exact vAs_at hi')
    rw [q]
    congr 2
    push_cast
    omega
   have X2:Hid (∀ i,i < y.n→w.cell? (adr y.s i)=some (.int .i64 (z+1+x.n+i))):=fun i hi'=>by
    have q:=MR (x.n+i+1) (adr y.s i) (by
     rw [List.getElem?_cons_succ,List.getElem?_append_right (by rw [vAs_len];omega),vAs_len,show x.n+i - x.n=i by omega,List.getElem?_append_left (by rw [vAs_len];exact hi')]
     exact vAs_at hi')
    rw [q]
    congr 2
    push_cast
    omega
   have c3:w.cell? ⟨g,o+j * 4+3,none⟩=some (.int .i64 (z+1+x.n+y.n)):=by
    have q:=MR (x.n+y.n+1) ⟨g,o+j * 4+3,none⟩ (by
     rw [List.getElem?_cons_succ,List.getElem?_append_right (by rw [vAs_len];omega),vAs_len,show x.n+y.n - x.n=y.n by omega,List.getElem?_append_right (by rw [vAs_len];omega),vAs_len,Nat.sub_self]
     rfl)
    rw [q]
    congr 2
    push_cast
    omega
   have OK1:Hid (x.n=0∨Somewhere x.s):=ok1
   have OK2:Hid (y.n=0∨Somewhere y.s):=ok2
   have TK':Hid (gAs (some ⟨g,o,none⟩) TK.length (R.take (j+1)) 0=gAs (some ⟨g,o,none⟩) TK.length (R.take j) 0++((⟨g,o+j * 4,none⟩:Addr)::(vAs x++(vAs y++[(⟨g,o+j * 4+3,none⟩:Addr)])))):=by have q:=gAs_take (s:=some ⟨g,o,none⟩) (wd:=TK.length) hx;rw [recK_as] at q;exact q
   have HB:Hid ((gAs (some ⟨g,o,none⟩) TK.length (R.take j) 0).length+(2+x.n+y.n)≤2000000 * 4):=by
    have h1:=gAs_long (s:=some ⟨g,o,none⟩) (wd:=TK.length) hx
    rw [recK_as] at h1
    have h2:=HN.out
    show _≤_
    simp [vAs_len] at h1
    omega
   have b0:(0:Int)≤(j:Int):=by omega
   have b1:(j:Int) < (R.length:Int):=by omega
   have hzz:(z !=z)=false:=by simp
   have hz3:((z+1+(x.n:Int)+(y.n:Int)) !=(z+1+(x.n:Int)+(y.n:Int)))=false:=by simp
   have zz1:0≤z+1+(x.n:Int)∧z+1+(x.n:Int)≤30000000000000:=by omega
   have zn1:¬ z+1+(x.n:Int) < 0:=by omega
   have zn2:¬ z+1+(x.n:Int)+(y.n:Int) < 0:=by omega
   clear hx MR ok1 ok2 e1 e2 ea eb
   go_wp2_with fail
   refine (heldI_any x (z+1) w OK1.out X1.out xn (by omega) (by omega)).mono ?_
   rintro e w9 ⟨rfl,hw9⟩
   subst w9
   go_wp2_with fail
   refine (heldI_any y (z+1+x.n) w OK2.out X2.out yn zz1.1 (by omega)).mono ?_
   rintro e w9 ⟨rfl,hw9⟩
   subst w9
   have zz3:z+1+(x.n:Int)+(y.n:Int)+1≤20000000000000:=by have h1:=HZ.out;have h2:=HB.out;omega
   have ZZ:Hid (z+1+(x.n:Int)+(y.n:Int)+1=q+(gAs (some ⟨g,o,none⟩) TK.length (R.take (j+1)) 0).length):=by
    show _=_
    rw [TK'.out,HZ.out]
    simp [vAs_len]
    omega
   go_wp2
   go_round
   case rel=>exact ⟨j+1,_,by omega,by go_num,rfl,by omega,zz3,ZZ.out⟩
   case measure=>simp [intOf];omega
  ·go_wp2
   go_ret
   have e:j=R.length:=by omega
   subst e
   have h2:=HZ.out
   rw [List.take_length] at h2
   exact ⟨by rw [h2];rfl,rfl⟩
end
section
open Go.RowKit
theorem MarkedA.far {w w':World} {A B:List Addr} {q r:Int} (h:MarkedA w A q) (hw:Wrote B r w w') (hd:∀ a∈A,a∉B):MarkedA w' A q:=fun p a ha=>(hw.far a (hd a (List.mem_of_getElem? ha))).trans (h p a ha)
theorem MarkedA.below {w w':World} {A:List Addr} {q:Int} {K:Nat} (h:MarkedA w A q) (hb:Below K w w') (hA:∀ a∈A,a.block < K):MarkedA w' A q:=fun p a ha=>(hb.cell (hA a (List.mem_of_getElem? ha))).trans (h p a ha)
theorem MarkedA.app {w:World} {A B:List Addr} {q:Int} (h:MarkedA w A q) (h':MarkedA w B (q+A.length)):MarkedA w (A++B) q:=fun p a ha=>by
 by_cases hp:p < A.length
 ·rw [List.getElem?_append_left hp] at ha
  exact h p a ha
 ·rw [List.getElem?_append_right (by omega)] at ha
  rw [h' _ a ha]
  congr 2
  omega
theorem MarkedA.left {w:World} {A B:List Addr} {q:Int} (h:MarkedA w (A++B) q):MarkedA w A q:=fun p a ha=>h p a (by rw [List.getElem?_append_left (List.getElem?_eq_some_iff.1 ha).1];exact ha)
theorem MarkedA.right {w:World} {A B:List Addr} {q:Int} (h:MarkedA w (A++B) q):MarkedA w B (q+A.length):=fun p a ha=>by
 have:=h (A.length+p) a (by rw [List.getElem?_append_right (by omega),show A.length+p - A.length=p by omega];exact ha)
 rw [this]
 congr 2
 push_cast
 omega
structure MaSh (w:World) (lo hi:Nat) (p:MP) (d:MD):Prop where
 c:GSh w lo hi p.s1 TC p.RC
 k:GSh w lo hi p.s2 TK p.RK
 m:Sh w lo hi p.s3 p.S
 to:d.tr.length * 2=0∨Somewhere p.s4
 t:∀ a∈vAs (p.x4 d),IntC w lo hi a
 nc:p.RC.length=d.codes.length
 nk:p.RK.length=d.cores.length
 nm:p.S.length=d.mem.length
 sc:(gAs p.s1 TC.length p.RC 0).length=5 * szC d.codes
 sk:(gAs p.s2 TK.length p.RK 0).length=2 * d.cores.length+szK d.cores
 sm:(mAs p.S).length=szR d.mem
 vk:∀ r∈p.RK,∀ x e,FS.r x e∈r→x.n≤szK d.cores
 d:(p.as d).Nodup
theorem MaSh.keep {w w':World} {lo hi:Nat} {p:MP} {d:MD} (h:MaSh w lo hi p d) (hb:Keep lo hi w w'):MaSh w' lo hi p d:=⟨h.c.keep hb,h.k.keep hb,h.m.keep hb,h.to,fun a ha=>(h.t a ha).keep hb,h.nc,h.nk,h.nm,h.sc,h.sk,h.sm,h.vk,h.d⟩
theorem Wrote.mash {A:List Addr} {q:Int} {w w':World} (h:Wrote A q w w') (hA:∀ a∈A,∃ z,w.cell? a=some (.int .i64 z)) {lo hi:Nat} {p:MP} {d:MD} (hs:MaSh w lo hi p d):MaSh w' lo hi p d:=⟨h.gsh hA hs.c,h.gsh hA hs.k,h.sh hA hs.m,hs.to,fun a ha=>h.intc (hs.t a ha),hs.nc,hs.nk,hs.nm,hs.sc,hs.sk,hs.sm,hs.vk,hs.d⟩
theorem cs_sz {w:World} {lo hi:Nat} {s:Option Addr}:∀ (R:List (List FS)) (l:List (List I5)) (k:Nat),R.length=l.length→(∀ (i:Nat) (r:List FS) (y:List I5),R[i]? =some r→l[i]? =some y→∃ x,r=[.r x 5]∧x.n=y.length)→(gAs s TC.length R k).length=5 * szC l
 | [],[],k,_,_=>by simp [gAs,szC]
 | r::R,y::l,k,h,hv=>by
  have h1:=cs_sz (w:=w) (lo:=lo) (hi:=hi) (s:=s) R l (k+1) (by simpa using h) (fun i a b ha hb=>hv (i+1) a b (by simpa using ha) (by simpa using hb))
  obtain ⟨x,rfl,hx⟩:=hv 0 r y rfl rfl
  simp only [gAs,List.length_append,h1,recC_as,vAs_len,szC]
  simp [VS.wide]
  omega
 | [],y::t,k,h,_=>by simp at h
 | x::r,[],k,h,_=>by simp at h
theorem ks_sz {w:World} {lo hi:Nat} {s:Option Addr}:∀ (R:List (List FS)) (l:List KD) (k:Nat),R.length=l.length→(∀ (i:Nat) (r:List FS) (y:KD),R[i]? =some r→l[i]? =some y→∃ x z,r=[.i,.r x 1,.r z 1,.i]∧x.n=y.regs.length∧z.n=y.vw.length)→(gAs s TK.length R k).length=2 * l.length+szK l
 | [],[],k,_,_=>by simp [gAs,szK]
 | r::R,y::l,k,h,hv=>by
  have h1:=ks_sz (w:=w) (lo:=lo) (hi:=hi) (s:=s) R l (k+1) (by simpa using h) (fun i a b ha hb=>hv (i+1) a b (by simpa using ha) (by simpa using hb))
  obtain ⟨x,z,rfl,hx,hz⟩:=hv 0 r y rfl rfl
  simp only [gAs,List.length_append,h1,recK_as,szK]
  simp [vAs_len]
  omega
 | [],y::t,k,h,_=>by simp at h
 | x::r,[],k,h,_=>by simp at h
theorem GO.csAt {w:World} {lo hi:Nat} {s:Option Addr} {R:List (List FS)} {l:List (List I5)} (h:GO w lo hi s TC R (l.map codeV)):∀ (i:Nat) (r:List FS) (y:List I5),R[i]? =some r→l[i]? =some y→∃ x,r=[.r x 5]∧x.n=y.length:=fun i r y hr hy=>by
 obtain ⟨x,rfl⟩:=kindC (h.t i r hr)
 have q:=((h.c i _ (codeV y) hr (by rw [List.getElem?_map,hy];rfl)).2 0 (.r x 5) (.r (fl5 y)) rfl rfl).2.2.n
 rw [fl5_len] at q
 simp [VS.wide] at q
 exact ⟨x,rfl,by omega⟩
theorem GO.ksAt {w:World} {lo hi:Nat} {s:Option Addr} {R:List (List FS)} {l:List KD} (h:GO w lo hi s TK R (l.map coreV)):∀ (i:Nat) (r:List FS) (y:KD),R[i]? =some r→l[i]? =some y→∃ x z,r=[.i,.r x 1,.r z 1,.i]∧x.n=y.regs.length∧z.n=y.vw.length:=fun i r y hr hy=>by
 obtain ⟨x,z,rfl⟩:=kindK (h.t i r hr)
 have c:=(h.c i _ (coreV y) hr (by rw [List.getElem?_map,hy];rfl)).2
 have q1:=(c 1 (.r x 1) (.r y.regs) rfl rfl).2.2.n
 have q2:=(c 2 (.r z 1) (.r y.vw) rfl rfl).2.2.n
 rw [wide_one] at q1 q2
 exact ⟨x,z,rfl,q1,q2⟩
theorem MaO.sh {w:World} {lo hi:Nat} {p:MP} {d:MD} (h:MaO w lo hi p d):MaSh w lo hi p d:=by
 have nc:p.RC.length=d.codes.length:=by have:=h.c.n;simpa using this
 have nk:p.RK.length=d.cores.length:=by have:=h.k.n;simpa using this
 refine ⟨h.c.sh,h.k.sh,h.m.sh,?_,fun a ha=>h.t.intc ha,nc,nk,h.m.n,cs_sz (w:=w) (lo:=lo) (hi:=hi) _ _ _ nc h.c.csAt,ks_sz (w:=w) (lo:=lo) (hi:=hi) _ _ _ nk h.k.ksAt,h.m.sz,fun r hr x e hx=>?_,h.d⟩
 ·rcases h.t.c with e | ⟨g,o,e,-⟩
  ·have:=fl2_len d.tr
   rw [e] at this
   exact .inl (by simpa using this.symm)
  ·exact .inr ⟨g,o,e⟩
 ·obtain ⟨i,hi',e'⟩:=List.getElem_of_mem hr
  have hr':p.RK[i]? =some r:=by rw [List.getElem?_eq_getElem hi',e']
  obtain ⟨y,hy⟩:=at_same nk.symm hr'
  obtain ⟨x1,x2,rfl,h1,h2⟩:=h.k.ksAt i r y hr' hy
  have:=szK_at d.cores i y hy
  simp at hx
  rcases hx with ⟨rfl,-⟩ | ⟨rfl,-⟩<;>omega
theorem MaSh.parts {w : World} {lo hi : Nat} {p : MP} {d : MD} (h : MaSh w lo hi p d) :
  (∀ a∈gAs p.s1 TC.length p.RC 0,a∉gAs p.s2 TK.length p.RK 0∧a∉mAs p.S∧a∉vAs (p.x4 d))∧(∀ a∈gAs p.s2 TK.length p.RK 0,a∉mAs p.S∧a∉vAs (p.x4 d))∧(∀ a∈mAs p.S,a∉vAs (p.x4 d)):=by
 have nod:=h.d
 unfold MP.as at nod
 obtain ⟨-,n2,d1⟩:=List.nodup_append.1 nod
 obtain ⟨-,n3,d2⟩:=List.nodup_append.1 n2
 obtain ⟨-,-,d3⟩:=List.nodup_append.1 n3
 exact ⟨fun a ha=>⟨fun hm=>d1 a ha a (by simp [hm]) rfl,fun hm=>d1 a ha a (by simp [hm]) rfl,fun hm=>d1 a ha a (by simp [hm]) rfl⟩,fun a ha=>⟨fun hm=>d2 a ha a (by simp [hm]) rfl,fun hm=>d2 a ha a (by simp [hm]) rfl⟩,fun a ha hm=>d3 a ha a hm rfl⟩
theorem Wrote.exc {A:List Addr} {q:Int} {w w':World} {lo hi:Nat} (h:Wrote A q w w') (hA:∀ a∈A,lo≤a.block∧a.block < hi):Exc lo hi w w':=⟨h.os,h.tape,h.out,by rw [h.size];exact Nat.le_refl _,fun k _ hc=>h.blk k (fun a ha e=>by have:=hA a ha;omega)⟩
theorem Exc.trans {lo hi:Nat} {w w1 w2:World} (h:Exc lo hi w w1) (h':Exc lo hi w1 w2):Exc lo hi w w2:=⟨h'.os.trans h.os,h'.tape.trans h.tape,h'.out.trans h.out,Nat.le_trans h.size h'.size,fun k hk hc=>(h'.blk k (Nat.lt_of_lt_of_le hk h.size) hc).trans (h.blk k hk hc)⟩
theorem exc_of {lo hi:Nat} {w w':World} (h:Below w.heap.size w w'):Exc lo hi w w':=⟨h.os,h.tape,h.output,h.size,fun k hk _=>h.block k hk⟩
theorem B4.exc {w w':World} {b lo hi:Nat} {v0 v1 v2 v3:Value} (h:B4 w b v0 v1 v2 v3) (he:Exc lo hi w w') (hb:b < lo∨hi≤b):B4 w' b v0 v1 v2 v3:=by
 have k:w'.heap[b]? =w.heap[b]? :=he.blk b h.z hb
 exact ⟨Nat.lt_of_lt_of_le h.z he.size,(World.cell?_of_block (w:=w) k).trans h.c0,(World.cell?_of_block (w:=w) k).trans h.c1,(World.cell?_of_block (w:=w) k).trans h.c2,(World.cell?_of_block (w:=w) k).trans h.c3⟩
set_option maxHeartbeats 1000000 in
theorem markMemory_sh (so : Option Addr) (S : List RS) (n c lo hi : Nat) (q : Int) (w : World) (h : Sh w lo hi so S) (hB : hi ≤ w.heap.size) (hn : S.length = n) (hl : n ≤ 2000000) (hm : (mAs S).length ≤ 2000000) (hq : 0 ≤ q) (hq' : q ≤ 10000000000000) :
  Calls Tryz.prog 41 #[.agg #[.slice so n c],.int .i64 q] w fun e w'=>e=.returned (.int .i64 (q+(mAs S).length))∧∃ W,Below w.heap.size w W∧Wrote (mAs S) q W w':=by
 subst hn
 have k0:Below w.heap.size w (w.alloc (.cells #[.slice so S.length c] 37)):=(Below.refl _ _).alloc (Nat.le_refl _) _
 have cm:=markRs_any so S c lo hi q (w.alloc (.cells #[.slice so S.length c] 37)) (h.keep (Keep.of_below k0 hB)) hl hm hq hq'
 have HK:Hid (Below w.heap.size w (w.alloc (.cells #[.slice so S.length c] 37))):=k0
 clear h k0
 go_enter Tryz.func41,Tryz.ntmps41
 go_wp2_with (go_at_call 76;refine cm.mono ?_;rintro e w1 ⟨rfl,hw1⟩;have HW1:=(show Hid _ from hw1);clear hw1)
 go_ret
 exact ⟨rfl,_,HK.out,HW1.out⟩
set_option maxHeartbeats 1000000 in
theorem heldMemory_sh (so : Option Addr) (S : List RS) (n c lo hi : Nat) (q : Int) (w : World) (h : Sh w lo hi so S) (hM : MarkedA w (mAs S) q) (hB : hi ≤ w.heap.size) (hn : S.length = n) (hl : n ≤ 2000000) (hm : (mAs S).length ≤ 2000000) (hq : 0 ≤ q) (hq' : q ≤ 10000000000000) :
  Calls Tryz.prog 45 #[.agg #[.slice so n c],.int .i64 q] w fun e w'=>e=.returned (.int .i64 (q+(mAs S).length))∧Below w.heap.size w w':=by
 subst hn
 have k0:Below w.heap.size w (w.alloc (.cells #[.slice so S.length c] 37)):=(Below.refl _ _).alloc (Nat.le_refl _) _
 have cm:=heldRs_any so S c lo hi q (w.alloc (.cells #[.slice so S.length c] 37)) (h.keep (Keep.of_below k0 hB)) (hM.below k0 (fun a ha=>by have:=(h.int a ha).2.2.2;omega)) hl hm hq hq'
 have HK:Hid (Below w.heap.size w (w.alloc (.cells #[.slice so S.length c] 37))):=k0
 have hnn:¬ q+((mAs S).length:Int) < 0:=by omega
 clear h k0 hM
 go_enter Tryz.func45,Tryz.ntmps45
 go_wp2_with (go_at_call 78;refine cm.mono ?_;rintro e w1 ⟨rfl,hw1⟩;subst w1)
 go_ret
 exact ⟨rfl,HK.out⟩
structure MaMk (w:World) (lo hi:Nat) (p:MP) (d:MD) (q:Int):Prop where
 sh:MaSh w lo hi p d
 m:MarkedA w (p.as d) q
theorem MaSh.int {w:World} {lo hi:Nat} {p:MP} {d:MD} (h:MaSh w lo hi p d):∀ a∈p.as d,IntC w lo hi a:=fun a ha=>by
 rcases List.mem_append.1 ha with ha | ha
 ·exact h.c.int a ha
 ·rcases List.mem_append.1 ha with ha | ha
  ·exact h.k.int a ha
  ·rcases List.mem_append.1 ha with ha | ha
   ·exact h.m.int a ha
   ·exact h.t a ha
theorem MaMk.keep {w w':World} {lo hi:Nat} {p:MP} {d:MD} {q:Int} (h:MaMk w lo hi p d q) (hb:Keep lo hi w w'):MaMk w' lo hi p d q:=
 ⟨h.sh.keep hb,fun i a ha=>by obtain ⟨-,-,b,c⟩:=h.sh.int a (List.mem_of_getElem? ha);exact (hb.cell b c).trans (h.m i a ha)⟩
def MP.len (p:MP) (d:MD):Nat:=5 * szC d.codes+(2 * d.cores.length+szK d.cores)+szR d.mem+d.tr.length * 2
end
section
open Go.RowKit
set_option maxHeartbeats 2000000 in
theorem markMachine_any (p : MP) (d : MD) (lo hi : Nat) (q : Int) (w : World) (h : MaSh w lo hi p d) (hB : hi ≤ w.heap.size) (hf : MaFits d) (hq : 0 ≤ q) (hq' : q ≤ 1000000000000) :
  Calls Tryz.prog 13 #[.agg #[.slice p.s1 d.codes.length p.c1,.slice p.s2 d.cores.length p.c2,.slice p.s3 d.mem.length p.c3,.slice p.s4 d.tr.length p.c4],.int .i64 q] w fun e w'=>e=.returned (.int .i64 (q+p.len d))∧MaMk w' lo hi p d q∧Exc lo hi w w'∧∀ k,k < w.heap.size→(∀ a∈p.as d,a.block≠k)→w'.heap[k]? =w.heap[k]? :=by
 have F1:d.codes.length+szC d.codes≤1048576:=hf.c
 have F2:d.cores.length+szK d.cores≤2000000:=by have:=hf.k;omega
 have F3:d.mem.length+szR d.mem≤2000000:=hf.m
 have F4:d.tr.length≤2000000:=hf.t
 have H:Hid (MaSh w lo hi p d):=h
 obtain ⟨N1,h1,b1⟩:∃ n,(gAs p.s1 TC.length p.RC 0).length=n∧n≤6000000:=⟨_,rfl,by have:=h.sc;omega⟩
 obtain ⟨N2,h2,b2⟩:∃ n,(gAs p.s2 TK.length p.RK 0).length=n∧n≤2000000 * 4:=⟨_,rfl,by have:=h.sk;omega⟩
 obtain ⟨N3,h3,b3⟩:∃ n,(mAs p.S).length=n∧n≤2000000:=⟨_,rfl,by have:=h.sm;omega⟩
 have LN:Hid (q+(N1:Int)+N2+N3+((d.tr.length * 2:Nat):Int)=q+p.len d):=by
  have:=h.sc;have:=h.sk;have:=h.sm
  show _=_;unfold MP.len;push_cast;omega
 have C1:Hid (∀ W,MaSh W lo hi p d→Calls Tryz.prog 39 #[.slice p.s1 d.codes.length p.c1,.int .i64 q] W fun e w'=>e=.returned (.int .i64 (q+N1))∧Wrote (gAs p.s1 TC.length p.RC 0) q W w'):=fun W hW=>by
  have C:=markCs_any p.s1 p.RC p.c1 lo hi q W hW.c (by have:=hW.nc;omega) (by omega) hq (by omega)
  rw [hW.nc,h1] at C
  exact C
 have C2:Hid (∀ W,MaSh W lo hi p d→Calls Tryz.prog 40 #[.slice p.s2 d.cores.length p.c2,.int .i64 (q+N1)] W fun e w'=>e=.returned (.int .i64 (q+N1+N2))∧Wrote (gAs p.s2 TK.length p.RK 0) (q+N1) W w'):=fun W hW=>by
  have C:=markKs_any p.s2 p.RK p.c2 lo hi (q+N1) W hW.k (by have:=hW.nk;omega) (by omega) (fun r hr x e hx=>by have:=hW.vk r hr x e hx;omega) (by omega) (by omega)
  rw [hW.nk,h2] at C
  exact C
 have C3:Hid (∀ W,MaSh W lo hi p d→hi≤W.heap.size→Calls Tryz.prog 41 #[.agg #[.slice p.s3 d.mem.length p.c3],.int .i64 (q+N1+N2)] W fun e w'=>e=.returned (.int .i64 (q+N1+N2+N3))∧∃ V,Below W.heap.size W V∧Wrote (mAs p.S) (q+N1+N2) V w'):=fun W hW hs=>by
  have C:=markMemory_sh p.s3 p.S d.mem.length p.c3 lo hi (q+N1+N2) W hW.m hs hW.nm (by omega) (by omega) (by omega) (by omega)
  rw [h3] at C
  exact C
 have L1:Hid ((gAs p.s1 TC.length p.RC 0).length=N1):=h1
 have L2:Hid ((gAs p.s2 TK.length p.RK 0).length=N2):=h2
 have L3:Hid ((mAs p.S).length=N3):=h3
 clear h1 h2 h3
 obtain ⟨dis1,dis2,dis3⟩:=h.parts
 have I:Hid (∀ a∈p.as d,lo≤a.block∧a.block < hi):=fun a ha=>(h.int a ha).2.2
 have D1:Hid (∀ a∈gAs p.s1 TC.length p.RC 0,a∉gAs p.s2 TK.length p.RK 0∧a∉mAs p.S∧a∉vAs (p.x4 d)):=dis1
 have D2:Hid (∀ a∈gAs p.s2 TK.length p.RK 0,a∉mAs p.S∧a∉vAs (p.x4 d)):=dis2
 have D3:Hid (∀ a∈mAs p.S,a∉vAs (p.x4 d)):=dis3
 clear h hf dis1 dis2 dis3
 go_enter Tryz.func13,Tryz.ntmps13
 go_wp2_with fail
 obtain ⟨W,hW,bx,kb,zb⟩:=B4.new w (.slice p.s1 d.codes.length p.c1) (.slice p.s2 d.cores.length p.c2) (.slice p.s3 d.mem.length p.c3) (.slice p.s4 d.tr.length p.c4) 40
 rw [hW]
 clear hW
 have A0:Hid (B4 W w.heap.size (.slice p.s1 d.codes.length p.c1) (.slice p.s2 d.cores.length p.c2) (.slice p.s3 d.mem.length p.c3) (.slice p.s4 d.tr.length p.c4)):=bx
 have E0:Hid (Exc lo hi w W):=exc_of kb
 have B0:Hid (∀ k,k < w.heap.size→(∀ a∈p.as d,a.block≠k)→W.heap[k]? =w.heap[k]?):=fun k hk _=>kb.block k hk
 have S0:Hid (MaSh W lo hi p d):=H.out.keep (Keep.of_below kb hB)
 clear bx kb
 refine (C1.out W S0.out).mono ?_
 rintro e w1 ⟨rfl,hw1⟩
 have S1:Hid (MaSh w1 lo hi p d):=hw1.mash (fun a ha=>(S0.out.c.int a ha).1) S0.out
 have X1:=hw1.exc (lo:=lo) (hi:=hi) (fun a ha=>I.out a (by unfold MP.as;simp [ha]))
 have E1:Hid (Exc lo hi w w1):=E0.out.trans X1
 have B1:Hid (∀ k,k < w.heap.size→(∀ a∈p.as d,a.block≠k)→w1.heap[k]? =w.heap[k]?):=fun k hk hc=>(hw1.blk k (fun a ha=>hc a (by unfold MP.as;simp [ha]))).trans (B0.out k hk hc)
 have A1:Hid (B4 w1 w.heap.size (.slice p.s1 d.codes.length p.c1) (.slice p.s2 d.cores.length p.c2) (.slice p.s3 d.mem.length p.c3) (.slice p.s4 d.tr.length p.c4)):=A0.out.exc X1 (.inr hB)
 have M1:Hid (MarkedA w1 (gAs p.s1 TC.length p.RC 0) q):=hw1.at'
 obtain ⟨p0,p1,p2,p3,p4⟩:=A1.out
 clear X1 hw1
 go_wp2_with fail
 refine (C2.out w1 S1.out).mono ?_
 rintro e w2 ⟨rfl,hw2⟩
 have S2:Hid (MaSh w2 lo hi p d):=hw2.mash (fun a ha=>(S1.out.k.int a ha).1) S1.out
 have X2:=hw2.exc (lo:=lo) (hi:=hi) (fun a ha=>I.out a (by unfold MP.as;simp [ha]))
 have E2:Hid (Exc lo hi w w2):=E1.out.trans X2
 have B2:Hid (∀ k,k < w.heap.size→(∀ a∈p.as d,a.block≠k)→w2.heap[k]? =w.heap[k]?):=fun k hk hc=>(hw2.blk k (fun a ha=>hc a (by unfold MP.as;simp [ha]))).trans (B1.out k hk hc)
 have A2:Hid (B4 w2 w.heap.size (.slice p.s1 d.codes.length p.c1) (.slice p.s2 d.cores.length p.c2) (.slice p.s3 d.mem.length p.c3) (.slice p.s4 d.tr.length p.c4)):=A1.out.exc X2 (.inr hB)
 have M2:Hid (MarkedA w2 (gAs p.s1 TC.length p.RC 0++gAs p.s2 TK.length p.RK 0) q):=(M1.out.far hw2 (fun a ha=>(D1.out a ha).1)).app (by rw [L1.out];exact hw2.at')
 clear p0 p1 p2 p3 p4
 obtain ⟨p0,p1,p2,p3,p4⟩:=A2.out
 clear X2 hw2
 have e2:=E2.out.size
 go_wp2_with fail
 refine (C3.out w2 S2.out (by omega)).mono ?_
 rintro e w3 ⟨rfl,V,kv,hw3⟩
 have SV:=S2.out.keep (Keep.of_below kv (show hi≤w2.heap.size by omega))
 have S3:Hid (MaSh w3 lo hi p d):=hw3.mash (fun a ha=>(SV.m.int a ha).1) SV
 have X3:=(exc_of kv (lo:=lo) (hi:=hi)).trans (hw3.exc (lo:=lo) (hi:=hi) (fun a ha=>I.out a (by unfold MP.as;simp [ha])))
 have E3:Hid (Exc lo hi w w3):=E2.out.trans X3
 have B3:Hid (∀ k,k < w.heap.size→(∀ a∈p.as d,a.block≠k)→w3.heap[k]? =w.heap[k]?):=fun k hk hc=>(hw3.blk k (fun a ha=>hc a (by unfold MP.as;simp [ha]))).trans ((kv.block k (by have:=E2.out.size;omega)).trans (B2.out k hk hc))
 have A3:Hid (B4 w3 w.heap.size (.slice p.s1 d.codes.length p.c1) (.slice p.s2 d.cores.length p.c2) (.slice p.s3 d.mem.length p.c3) (.slice p.s4 d.tr.length p.c4)):=A2.out.exc X3 (.inr hB)
 have M3:Hid (MarkedA w3 ((gAs p.s1 TC.length p.RC 0++gAs p.s2 TK.length p.RK 0)++mAs p.S) q):=by
  refine ((M2.out.below kv (fun a ha=>?_)).far hw3 (fun a ha=>?_)).app ?_
  ·have:=I.out a (by unfold MP.as;rcases List.mem_append.1 ha with ha | ha<;>simp [ha])
   omega
  ·rcases List.mem_append.1 ha with ha | ha
   ·exact (D1.out a ha).2.1
   ·exact (D2.out a ha).1
  ·have q:=hw3.at'
   simp only [List.length_append,L1.out,L2.out]
   push_cast
   rw [← Int.add_assoc]
   exact q
 clear p0 p1 p2 p3 p4
 obtain ⟨p0,p1,p2,p3,p4⟩:=A3.out
 clear X3 hw3 SV kv
 go_wp2_with fail
 refine (markNt_any ⟨p.s4,d.tr.length,p.c4⟩ lo hi (q+N1+N2+N3) w3 S3.out.to S3.out.t (by show d.tr.length * 2≤_;omega) (by omega) (by omega)).mono ?_
 rintro e w4 ⟨rfl,hw4⟩
 have S4:Hid (MaSh w4 lo hi p d):=hw4.mash (fun a ha=>(S3.out.t a ha).1) S3.out
 have X4:=hw4.exc (lo:=lo) (hi:=hi) (fun a ha=>I.out a (by unfold MP.as;simp only [List.mem_append];exact .inr (.inr (.inr ha))))
 have E4:Hid (Exc lo hi w w4):=E3.out.trans X4
 have B4':Hid (∀ k,k < w.heap.size→(∀ a∈p.as d,a.block≠k)→w4.heap[k]? =w.heap[k]?):=fun k hk hc=>(hw4.blk k (fun a ha=>hc a (by unfold MP.as;simp only [List.mem_append];exact .inr (.inr (.inr ha))))).trans (B3.out k hk hc)
 have M4:Hid (MarkedA w4 (p.as d) q):=by
  have m:=(M3.out.far hw4 (fun a ha=>by
   rcases List.mem_append.1 ha with ha | ha
   ·rcases List.mem_append.1 ha with ha | ha
    ·exact (D1.out a ha).2.2
    ·exact (D2.out a ha).2
   ·exact D3.out a ha)).app (B:=vAs (p.x4 d)) (by
    have q:=hw4.at'
    simp only [List.length_append,L1.out,L2.out,L3.out]
    push_cast
    rw [← Int.add_assoc,← Int.add_assoc]
    exact q)
  show MarkedA w4 (gAs p.s1 TC.length p.RC 0++(gAs p.s2 TK.length p.RK 0++(mAs p.S++vAs (p.x4 d)))) q
  simpa [List.append_assoc] using m
 clear X4 hw4
 go_wp2
 go_ret
 exact ⟨by rw [← LN.out];rfl,⟨S4.out,M4.out⟩,E4.out,B4'.out⟩
set_option maxHeartbeats 2000000 in
theorem heldMachine_any (p : MP) (d : MD) (lo hi : Nat) (q : Int) (w : World) (h : MaMk w lo hi p d q) (hB : hi ≤ w.heap.size) (hf : MaFits d) (hq : 0 ≤ q) (hq' : q ≤ 1000000000000) :
  Calls Tryz.prog 16 #[.agg #[.slice p.s1 d.codes.length p.c1,.slice p.s2 d.cores.length p.c2,.slice p.s3 d.mem.length p.c3,.slice p.s4 d.tr.length p.c4],.int .i64 q] w fun e w'=>e=.returned (.int .i64 (q+p.len d))∧Below w.heap.size w w':=by
 have F1:d.codes.length+szC d.codes≤1048576:=hf.c
 have F2:d.cores.length+szK d.cores≤2000000:=by have:=hf.k;omega
 have F3:d.mem.length+szR d.mem≤2000000:=hf.m
 have F4:d.tr.length≤2000000:=hf.t
 obtain ⟨N1,h1,b1⟩:∃ n,(gAs p.s1 TC.length p.RC 0).length=n∧n≤6000000:=⟨_,rfl,by have:=h.sh.sc;omega⟩
 obtain ⟨N2,h2,b2⟩:∃ n,(gAs p.s2 TK.length p.RK 0).length=n∧n≤2000000 * 4:=⟨_,rfl,by have:=h.sh.sk;omega⟩
 obtain ⟨N3,h3,b3⟩:∃ n,(mAs p.S).length=n∧n≤2000000:=⟨_,rfl,by have:=h.sh.sm;omega⟩
 have LN:Hid (q+(N1:Int)+N2+N3+((d.tr.length * 2:Nat):Int)=q+p.len d):=by
  have:=h.sh.sc;have:=h.sh.sk;have:=h.sh.sm
  show _=_;unfold MP.len;push_cast;omega
 have C1:Hid (∀ W,MaSh W lo hi p d→MarkedA W (gAs p.s1 TC.length p.RC 0) q→Calls Tryz.prog 43 #[.slice p.s1 d.codes.length p.c1,.int .i64 q] W fun e w'=>e=.returned (.int .i64 (q+N1))∧w'=W):=fun W hW hm=>by
  have C:=heldCs_any p.s1 p.RC p.c1 lo hi q W hW.c hm (by have:=hW.nc;omega) (by omega) hq (by omega)
  rw [hW.nc,h1] at C
  exact C
 have C2:Hid (∀ W,MaSh W lo hi p d→MarkedA W (gAs p.s2 TK.length p.RK 0) (q+N1)→Calls Tryz.prog 44 #[.slice p.s2 d.cores.length p.c2,.int .i64 (q+N1)] W fun e w'=>e=.returned (.int .i64 (q+N1+N2))∧w'=W):=fun W hW hm=>by
  have C:=heldKs_any p.s2 p.RK p.c2 lo hi (q+N1) W hW.k hm (by have:=hW.nk;omega) (by omega) (fun r hr x e hx=>by have:=hW.vk r hr x e hx;omega) (by omega) (by omega)
  rw [hW.nk,h2] at C
  exact C
 have C3:Hid (∀ W,MaSh W lo hi p d→MarkedA W (mAs p.S) (q+N1+N2)→hi≤W.heap.size→Calls Tryz.prog 45 #[.agg #[.slice p.s3 d.mem.length p.c3],.int .i64 (q+N1+N2)] W fun e w'=>e=.returned (.int .i64 (q+N1+N2+N3))∧Below W.heap.size W w'):=fun W hW hm hs=>by
  have C:=heldMemory_sh p.s3 p.S d.mem.length p.c3 lo hi (q+N1+N2) W hW.m hm hs hW.nm (by omega) (by omega) (by omega) (by omega)
  rw [h3] at C
  exact C
 have H:Hid (MaMk w lo hi p d q):=h
 clear h hf
 go_enter Tryz.func16,Tryz.ntmps16
 go_wp2_with fail
 obtain ⟨W,hW,bx,kb,zb⟩:=B4.new w (.slice p.s1 d.codes.length p.c1) (.slice p.s2 d.cores.length p.c2) (.slice p.s3 d.mem.length p.c3) (.slice p.s4 d.tr.length p.c4) 40
 rw [hW]
 clear hW
 have S0:MaMk W lo hi p d q:=H.out.keep (Keep.of_below kb hB)
 have K0:Hid (Below w.heap.size w W):=kb
 obtain ⟨p0,p1,p2,p3,p4⟩:=bx
 clear kb
 have SH:Hid (MaSh W lo hi p d):=S0.sh
 have m1:MarkedA W (gAs p.s1 TC.length p.RC 0) q:=MarkedA.left (B:=gAs p.s2 TK.length p.RK 0++(mAs p.S++vAs (p.x4 d))) S0.m
 have r1:MarkedA W (gAs p.s2 TK.length p.RK 0++(mAs p.S++vAs (p.x4 d))) (q+(gAs p.s1 TC.length p.RC 0).length):=MarkedA.right S0.m
 have M1:Hid (MarkedA W (gAs p.s1 TC.length p.RC 0) q):=m1
 have M2:Hid (MarkedA W (gAs p.s2 TK.length p.RK 0) (q+(gAs p.s1 TC.length p.RC 0).length)):=r1.left
 have M3:Hid (MarkedA W (mAs p.S) (q+(gAs p.s1 TC.length p.RC 0).length+(gAs p.s2 TK.length p.RK 0).length)):=r1.right.left
 have M4:Hid (MarkedA W (vAs (p.x4 d)) (q+(gAs p.s1 TC.length p.RC 0).length+(gAs p.s2 TK.length p.RK 0).length+(mAs p.S).length)):=r1.right.right
 rw [h1] at M2 M3 M4
 rw [h2] at M3 M4
 rw [h3] at M4
 clear S0 m1 r1 h1 h2 h3
 have n1:¬ q+(N1:Int) < 0:=by omega
 have n2:¬ q+(N1:Int)+(N2:Int) < 0:=by omega
 have n3:¬ q+(N1:Int)+(N2:Int)+(N3:Int) < 0:=by omega
 have n4:¬ q+(N1:Int)+(N2:Int)+(N3:Int)+((d.tr.length * 2:Nat):Int) < 0:=by omega
 refine (C1.out W SH.out M1.out).mono ?_
 rintro e w1 ⟨rfl,hw1⟩
 subst w1
 go_wp2_with fail
 refine (C2.out W SH.out M2.out).mono ?_
 rintro e w1 ⟨rfl,hw1⟩
 subst w1
 go_wp2_with fail
 refine (C3.out W SH.out M3.out (by omega)).mono ?_
 rintro e w3 ⟨rfl,hb3⟩
 have c4:=(hb3.cell (p:=⟨w.heap.size,3,none⟩) p0).trans p4
 have z3:=hb3.size
 have zz:w.heap.size < w3.heap.size:=by omega
 have K3:Hid (Below w.heap.size w w3):=K0.out.trans (hb3.mono (by omega))
 have N4:Hid (MarkedA w3 (vAs (p.x4 d)) (q+N1+N2+N3)):=M4.out.below hb3 (fun a ha=>by have:=(SH.out.t a ha).2.2.2;omega)
 have TO:=SH.out.to
 have HTO:Hid (d.tr.length * 2=0∨Somewhere p.s4):=TO
 clear hb3 p1 p2 p3 p4 TO
 go_wp2_with fail
 refine (heldNt_any ⟨p.s4,d.tr.length,p.c4⟩ (q+N1+N2+N3) w3 HTO.out N4.out (by show d.tr.length * 2≤_;omega) (by omega) (by omega)).mono ?_
 rintro e w4 ⟨rfl,hw4⟩
 subst w4
 go_wp2
 go_ret
 exact ⟨by rw [← LN.out];rfl,K3.out⟩
end
end
section
set_option linter.unusedSimpArgs false
set_option linter.unusedVariables false
set_option maxRecDepth 100000
open Go.RowKit
def OwnPk (w:World) (base:Nat) (v:Value) (l:List ND):Prop:=w.ownsRow base 62 2 v l.length (flatN l)
theorem OwnPk.nts {w:World} {base:Nat} {v:Value} {l:List ND} (h:OwnPk w base v l):∃ s c,v=.slice s l.length c∧NtsR w base w.heap.size s l:=by
 rcases Nat.eq_zero_or_pos l.length with h0 | hpos
 ·obtain ⟨s,c,e⟩:=ownSl h
  exact ⟨s,c,e,.inl (List.length_eq_zero_iff.1 h0)⟩
 ·obtain ⟨g,cap,rfl,-⟩:=World.ownsRow.form h hpos
  have hlt:=World.ownsRow.lt h g rfl
  refine ⟨_,_,rfl,.inr ⟨g,0,rfl,hlt.1,hlt.2,fun i r hr=>?_⟩⟩
  have hi:i < l.length:=(List.getElem?_eq_some_iff.1 hr).1
  obtain ⟨e0,e1⟩:=flatN_at l i r hr
  refine ⟨?_,?_⟩
  ·rw [Nat.zero_add,World.ownsRow.cellAt h _ (by omega)];exact e0
  ·rw [Nat.zero_add,World.ownsRow.cellAt h _ (by omega)];exact e1
theorem toPk_any (a b:Int) (w:World):Calls Tryz.prog 30 #[.agg #[.int .i64 a,.int .i64 b]] w fun e w'=>e=.returned (.agg #[.int .i64 a,.int .i64 b])∧Below w.heap.size w w':=by
 go_enter Tryz.func30,Tryz.ntmps30
 go_wp2
 exact bodyPost_ret (v:=.agg #[.int .i64 a,.int .i64 b]) (by simp [results,Tryz.results30,go_sem]) rfl ⟨rfl,(((Below.refl _ _).alloc (Nat.le_refl _) _).alloc (by simp) _).alloc (by simp;omega) _⟩
theorem mkPk (n:Nat) (hn:n≤1048576) (w:World):(Instr.makeSlice 45 (.int .i64 (n:Int)) (.int .i64 (n:Int))).run Tryz.prog w=.ok (.slice (some ⟨w.heap.size,0,none⟩) n n) (w.alloc (.cells (madeCells #[.int .i64 0,.int .i64 0] (n * 2)) 62)):=by
 have h:=run_make (P:=Tryz.prog) w 45 62 _ (.agg #[.int .i64 0,.int .i64 0]) Tryz.underlying45 rfl rfl .i64 .i64 n n (by omega) (Int.le_refl _) (by show (16:Int) * _≤_;omega) (by omega)
 have e:(Value.agg #[.int .i64 0,.int .i64 0]).cells=#[.int .i64 0,.int .i64 0]:=rfl
 have e':∀ t,Tryz.prog.info? 62=some t→t.size=2:=by intro t h;cases h;rfl
 rw [e,e' _ rfl] at h
 simpa using h
set_option maxHeartbeats 1000000 in
theorem toPickS_own (s : Option Addr) (c lo hi : Nat) (l : List ND) (w : World) (h : NtsR w lo hi s l) (hB : hi ≤ w.heap.size) (hl : l.length ≤ 1048576) :
  Calls Tryz.prog 8 #[.slice s l.length c] w fun e w'=>e=.returned (.slice (some ⟨w.heap.size,0,none⟩) l.length l.length)∧OwnPk w' w.heap.size (.slice (some ⟨w.heap.size,0,none⟩) l.length l.length) l∧Below w.heap.size w w'∧w.heap.size < w'.heap.size:=by
 have hmk:=mkPk l.length hl
 have HC:Hid (NtsR w lo hi s l):=h
 clear h
 go_enter Tryz.func8,Tryz.ntmps8
 go_wp2
 clear hmk
 go_loopw [4] (fun i wr=>∃ k:Nat,k≤l.length∧i=.int .i64 k∧Below w.heap.size w wr∧w.heap.size < wr.heap.size∧wr.ownsRow w.heap.size 62 2 (.slice (some ⟨w.heap.size,0,none⟩) l.length l.length) l.length (flatN (l.take k++List.replicate (l.length - k) ⟨0,0⟩))) (fun i _=>l.length - (intOf i).toNat)
 case atStart=>
  refine ⟨0,Nat.zero_le _,rfl,(Below.refl _ _).alloc (Nat.le_refl _) _,by simp,?_⟩
  have h0:=World.ownsRow_lit (base:=w.heap.size) (e:=62) (size:=2) w (madeCells #[.int .i64 0,.int .i64 0] (l.length * 2)) l.length (Nat.le_refl _) (by unfold maxLen;omega) (size_madeCells _ _)
  rw [← flatN_rep] at h0
  simpa using h0
 case round=>
  obtain ⟨k,hk,rfl,hb,hsz,ho⟩:=hrel
  have HB:Hid (Below w.heap.size w wr):=hb
  have HO:=(show Hid _ from ho)
  clear hb ho
  by_cases hlt:k < l.length
  ·obtain ⟨t,ht⟩:∃ t,l[k]? =some t:=⟨_,List.getElem?_eq_getElem hlt⟩
   obtain ⟨g,off,hs,hg,hc⟩:∃ g off,s=some ⟨g,off,none⟩∧g < w.heap.size∧NtR w g (off+k * 2) t:=by
    rcases HC.out with h | ⟨g,off,a,b,d,e⟩
    ·rw [h] at hlt;simp at hlt
    ·exact ⟨g,off,a,by omega,e k t ht⟩
   subst hs
   have f0:=(HB.out.cell (p:=⟨g,off+k * 2,none⟩) hg).trans hc.1
   have f1:=(HB.out.cell (p:=⟨g,off+k * 2+1,none⟩) hg).trans hc.2
   have HT:Hid (l[k]? =some t):=ht
   clear ht hc
   obtain ⟨ta,tb⟩:=t
   simp only at f0 f1
   have b0:(0:Int)≤(k:Int):=by omega
   have b1:(k:Int) < (l.length:Int):=by omega
   go_wp2_with fail
   refine (toPk_any ta tb _).mono ?_
   rintro e w1 ⟨rfl,hb1⟩
   have HB1:Hid (Below wr.heap.size wr w1):=hb1
   have hlr:(l.take k++List.replicate (l.length - k) (⟨0,0⟩:ND)).length=l.length:=by simp;omega
   have HO1:Hid (w1.ownsRow w.heap.size 62 2 (.slice (some ⟨w.heap.size,0,none⟩) l.length l.length) l.length (flatN (l.take k++List.replicate (l.length - k) ⟨0,0⟩))):=ownKeep' HO.out (fun k hk=>hb1.block k (World.ownsRow.lt HO.out _ hk).2)
   clear hb1 f0 f1
   have cc:∀ j,j < 2→∃ u,w1.cell? ⟨w.heap.size,k * 2+j,none⟩=some u:=fun j hj=>by
    rw [World.ownsRow.cellAt HO1.out (k * 2+j) (by omega)]
    exact ⟨_,List.getElem?_eq_getElem (by rw [flatN_len,hlr];omega)⟩
   have hfz:∀ j,w1.frozen? ⟨w.heap.size,j,none⟩=false:=fun j=>World.ownsRow.frozenAt HO1.out j
   obtain ⟨u0,g0⟩:=cc 0 (by omega)
   obtain ⟨u1,g1⟩:=cc 1 (by omega)
   rw [Nat.add_zero] at g0
   clear cc hlr
   go_wp2
   go_roundw
   case rel=>
    have hs1:=HB1.out.size
    show ∃ k':Nat,_∧_∧Below w.heap.size w (set2 w1 w.heap.size (k * 2) (.int .i64 ta) (.int .i64 tb))∧_ < (set2 w1 w.heap.size (k * 2) (.int .i64 ta) (.int .i64 tb)).heap.size∧World.ownsRow (set2 w1 w.heap.size (k * 2) (.int .i64 ta) (.int .i64 tb)) _ _ _ _ _ _
    refine ⟨k+1,by omega,by go_num,set2_below (HB.out.trans (HB1.out.mono (by omega))) (Nat.le_refl _),by rw [set2_size];omega,?_⟩
    have p:=(World.ownsRow.stored (World.ownsRow.stored HO1.out (k * 2) (.int .i64 ta)).1 (k * 2+1) (.int .i64 tb)).1
    have e3:l.length - k=(l.length - (k+1))+1:=by omega
    have e4:l.take (k+1)=l.take k++[⟨ta,tb⟩]:=by rw [List.take_add_one,HT.out];rfl
    have e5:(l.take k).length=k:=by rw [List.length_take];omega
    have fp:=flatN_put (l.take k) (List.replicate (l.length - (k+1)) ⟨0,0⟩) ⟨0,0⟩ ⟨ta,tb⟩
    rw [e5] at fp
    rw [e3,List.replicate_succ,fp] at p
    rw [e4,List.append_assoc]
    exact p
   case measure=>simp [intOf];omega
  ·go_wp2
   go_ret
   have:k=l.length:=by omega
   subst this
   have h1:=HO.out
   simp only [List.take_length,Nat.sub_self,List.replicate_zero,List.append_nil] at h1
   exact ⟨rfl,h1,HB.out,hsz⟩
theorem szPickS_all (s:Option Addr) (n c:Nat) (q:Int) (w:World) (hn:n≤maxLen) (hq:0≤q) (hq':q≤1048576):Calls Tryz.prog 5 #[.slice s n c,.int .i64 q] w fun e w'=>e=.returned (.int .i64 (if q < n then -1 else q - (n:Int)))∧w'=w:=by
 unfold maxLen at hn
 by_cases h:q < n
 ·rw [if_pos h]
  have h1:q - (n:Int) < 0:=by omega
  go_enter Tryz.func5,Tryz.ntmps5
  go_wp2
  go_ret
  exact ⟨rfl,rfl⟩
 ·rw [if_neg h]
  have h1:¬ q - (n:Int) < 0:=by omega
  go_enter Tryz.func5,Tryz.ntmps5
  go_wp2
  go_ret
  exact ⟨rfl,rfl⟩
theorem eqPk_alike (a b:Int) (w:World):Calls Tryz.prog 38 #[.agg #[.int .i64 a,.int .i64 b],.agg #[.int .i64 a,.int .i64 b]] w fun e w'=>e=.returned (.bool true)∧Below w.heap.size w w':=by
 go_enter Tryz.func38,Tryz.ntmps38
 go_wp2
 go_ret
 exact ⟨rfl,((Below.refl _ _).alloc (Nat.le_refl _) _).alloc (by simp) _⟩
set_option maxHeartbeats 2000000 in
theorem eqPickS_alike (s s' : Option Addr) (c c' lo hi lo' hi' : Nat) (l : List ND) (w : World) (h : NtsR w lo hi s l) (h' : NtsR w lo' hi' s' l) (hB : hi ≤ w.heap.size) (hB' : hi' ≤ w.heap.size) (hl : l.length ≤ 2000000) :
  Calls Tryz.prog 12 #[.slice s l.length c,.slice s' l.length c'] w fun e w'=>e=.returned (.bool true)∧Below w.heap.size w w':=by
 have H1:Hid (NtsR w lo hi s l):=h
 have H2:Hid (NtsR w lo' hi' s' l):=h'
 clear h h'
 have hne:((l.length:Int) !=(l.length:Int))=false:=by simp
 go_enter Tryz.func12,Tryz.ntmps12
 go_wp2
 go_loopw [5] (fun i wr=>∃ k:Nat,k≤l.length∧i=.int .i64 k∧Below w.heap.size w wr) (fun i _=>l.length - (intOf i).toNat)
 case atStart=>exact ⟨0,Nat.zero_le _,rfl,Below.refl _ _⟩
 case round=>
  obtain ⟨k,hk,rfl,hb⟩:=hrel
  have HB:Hid (Below w.heap.size w wr):=hb
  have hsz:=hb.size
  clear hb
  by_cases hlt:k < l.length
  ·obtain ⟨t,ht⟩:∃ t,l[k]? =some t:=⟨_,List.getElem?_eq_getElem hlt⟩
   obtain ⟨g,off,hs,hg,f0,f1⟩:∃ g off,s=some ⟨g,off,none⟩∧g < w.heap.size∧NtR wr g (off+k * 2) t:=by
    rcases H1.out with h | ⟨g,off,a,b,d,e⟩
    ·rw [h] at hlt;simp at hlt
    ·exact ⟨g,off,a,by omega,(HB.out.cell (p:=⟨g,_,none⟩) (by show g < _;omega)).trans (e k t ht).1,(HB.out.cell (p:=⟨g,_,none⟩) (by show g < _;omega)).trans (e k t ht).2⟩
   obtain ⟨g',off',hs',hg',f0',f1'⟩:∃ g off,s'=some ⟨g,off,none⟩∧g < w.heap.size∧NtR wr g (off+k * 2) t:=by
    rcases H2.out with h | ⟨g,off,a,b,d,e⟩
    ·rw [h] at hlt;simp at hlt
    ·exact ⟨g,off,a,by omega,(HB.out.cell (p:=⟨g,_,none⟩) (by show g < _;omega)).trans (e k t ht).1,(HB.out.cell (p:=⟨g,_,none⟩) (by show g < _;omega)).trans (e k t ht).2⟩
   subst hs
   subst hs'
   obtain ⟨ta,tb⟩:=t
   simp only at f0 f1 f0' f1'
   clear ht
   have b0:(0:Int)≤(k:Int):=by omega
   have b1:(k:Int) < (l.length:Int):=by omega
   go_wp2_with fail
   first | go_region_with (go_at_call 38;refine (eqPk_alike ta tb _).mono ?_;rintro e w1 ⟨rfl,hb1⟩) | fail
   all_goals
    have HB1:Hid (Below wr.heap.size wr w1):=⟨hb1.os,hb1.tape,hb1.output,hb1.size,hb1.block⟩
    clear hb1
    go_wp2
    go_roundw
    case rel=>exact ⟨k+1,by omega,by go_num,HB.out.trans (HB1.out.mono hsz)⟩
    case measure=>simp [intOf];omega
  ·go_wp2
   go_ret
   exact ⟨rfl,HB.out⟩
set_option maxHeartbeats 1000000 in
theorem markPk_any (x : VS) (lo hi : Nat) (q : Int) (w : World) (hok : x.n * 2 = 0 ∨ Somewhere x.s) (hint : ∀ a ∈ vAs (x.wide 2), IntC w lo hi a) (hn : x.n * 2 ≤ 10000000) (hq : 0 ≤ q) (hq' : q ≤ 1000000000000000) :
  Calls Tryz.prog 14 #[.slice x.s x.n x.c,.int .i64 q] w fun e w'=>e=.returned (.int .i64 (q+(x.n * 2:Nat)))∧Wrote (vAs (x.wide 2)) q w w':=by
 obtain ⟨s,n,c⟩:=x
 have HI:Hid (∀ a∈vAs ⟨s,n * 2,c⟩,IntC w lo hi a):=hint
 clear hint
 simp only at hok hn
 show Calls _ _ _ _ fun e w'=>e=.returned (.int .i64 (q+(n * 2:Nat)))∧Wrote (vAs ⟨s,n * 2,c⟩) q w w'
 go_enter Tryz.func14,Tryz.ntmps14
 go_wp2
 go_loopw [1,5] (fun a i wr=>∃ (k:Nat) (z:Int),k≤n∧i=.int .i64 k∧a=.int .i64 z∧0≤z∧z≤2000000000000000∧Hid (z=q+(k * 2:Nat))∧Wrote (vAs ⟨s,k * 2,c⟩) q w wr) (fun _ i _=>n - (intOf i).toNat)
 case atStart=>exact ⟨0,q,Nat.zero_le _,rfl,rfl,hq,by omega,show _=_ by simp,by simpa [vAs] using Wrote.refl q w⟩
 case round=>
  obtain ⟨k,z,hk,rfl,rfl,hz0,hz1,HZ,hw⟩:=hrel
  have HW:Hid (Wrote (vAs ⟨s,k * 2,c⟩) q w wr):=hw
  clear hw
  by_cases hlt:k < n
  ·obtain ⟨g,o,rfl⟩:Somewhere s:=by rcases hok with h | h<;>first | omega | exact h
   have hm:∀ j,j < 2→∃ z,wr.cell? ⟨g,o+k * 2+j,none⟩=some (.int .i64 z)∧wr.frozen? ⟨g,o+k * 2+j,none⟩=false:=fun j hj=>by
    obtain ⟨⟨z,hz⟩,hf,-,-⟩:=HW.out.intc (HI.out ⟨g,o+k * 2+j,none⟩ (mem_vAs.2 ⟨k * 2+j,by show _ < n * 2;omega,by simp [adr]<;>omega⟩))
    exact ⟨z,hz,hf⟩
   obtain ⟨y0,c0,f0⟩:=hm 0 (by omega)
   obtain ⟨y1,c1,f1⟩:=hm 1 (by omega)
   rw [Nat.add_zero] at c0 f0
   have b0:(0:Int)≤(k:Int):=by omega
   have b1:(k:Int) < (n:Int):=by omega
   clear hm
   go_wp2
   go_roundw
   case rel=>
    refine ⟨k+1,_,by omega,by go_num,rfl,by omega,by have:=HZ.out;omega,by show _=_;have:=HZ.out;push_cast;omega,?_⟩
    have e:vAs ⟨some ⟨g,o,none⟩,(k+1) * 2,c⟩=(vAs ⟨some ⟨g,o,none⟩,k * 2,c⟩++[⟨g,o+k * 2,none⟩])++[⟨g,o+k * 2+1,none⟩]:=by
     have e1:(k+1) * 2=k * 2+2:=by omega
     rw [e1]
     simp [vAs,List.range_add,List.range_succ,adr,Nat.add_assoc]
    rw [e]
    have nm:∀ j,(⟨g,o+k * 2+j,none⟩:Addr)∉vAs ⟨some ⟨g,o,none⟩,k * 2,c⟩:=fun j hm=>by
     obtain ⟨i,hi',ei⟩:=mem_vAs.1 hm
     simp [adr] at ei
     simp at hi'
     omega
    have hz:=HZ.out
    have W0:=HW.out.push (a:=⟨g,o+k * 2,none⟩) (z:=z) (fun hm=>by
     have q:=nm 0;first | exact q hm | (simp at hm;first | exact q hm | exact q (by simpa using hm) | omega)) (by rw [c0];rfl) (by simp [vAs_len];omega)
    have W1:=W0.push (a:=⟨g,o+k * 2+1,none⟩) (z:=z+1) (fun hm=>by
     have q:=nm 1;first | exact q hm | (simp at hm;first | exact q hm | exact q (by simpa using hm) | omega)) (by refine setC_some ?_;rw [c1];rfl) (by simp [vAs_len];omega)
    exact W1
   case measure=>simp [intOf];omega
  ·go_wp2
   go_ret
   have e:k=n:=by omega
   subst e
   exact ⟨by rw [HZ.out];rfl,HW.out⟩
end
section
set_option linter.unusedSimpArgs false
set_option linter.unusedVariables false
set_option maxRecDepth 100000
open Go.RowKit
def edgeB (full:List Oper) (i' i:Nat):Bool:=(full[i']?.map fun x=>x.after.any fun e=>Region.binds .any e&&e.on==i).getD false
def lexE (full:List Oper):Bool:=(List.range full.length).all fun i=>(full[i]?.map fun x=>x.after.all fun e=>!Region.binds .any e||decide (e.on < i)).getD true
/- whatever is ahead of number j is listed when j may come up -/
def covB (full:List Oper) (j:Nat):Bool:=(List.range j).all fun i=>(List.range (j+1)).any fun i'=>decide (i < i')&&edgeB full i' i
def sufOk (full:List Oper) (k:Nat):Bool:=lexE full&&((List.range full.length).all fun j=>decide (j < k)||covB full j)
theorem edge_iff {full:List Oper} {i' i:Nat}:edgeB full i' i=true↔∃ x,full[i']? =some x∧∃ e∈x.after,Region.binds .any e=true∧e.on=i:=by
 unfold edgeB
 cases h:full[i']? with
 | none=>simp
 | some x=>
  simp only [Option.map_some,Option.getD_some,Array.any_eq_true',Bool.and_eq_true,beq_iff_eq]
  constructor
  ·rintro ⟨e,h1,h2,h3⟩;exact ⟨x,rfl,e,h1,h2,h3⟩
  ·rintro ⟨y,hy,e,h1,h2,h3⟩;injection hy with hy;subst hy;exact ⟨e,h1,h2,h3⟩
theorem mem_rdy {full:List Oper} {listed:Array Bool} {i:Nat}:i∈Region.ready .any full.toArray listed↔i < full.length∧listed.getD i true=false∧∀ i2,edgeB full i i2=true→listed.getD i2 false=true:=by
 unfold Region.ready
 rw [List.mem_filter,List.mem_range,Bool.and_eq_true,Bool.not_eq_true',List.size_toArray,List.getElem?_toArray]
 refine and_congr_right fun hi=>and_congr_right fun _=>?_
 rw [List.getElem?_eq_getElem hi]
 simp only [Option.map_some,Option.getD_some,Array.all_eq_true',Bool.or_eq_true,Bool.not_eq_true']
 constructor
 ·intro h i2 h2
  rw [edge_iff] at h2
  obtain ⟨x,hx,e,he,hb,rfl⟩:=h2
  rw [List.getElem?_eq_getElem hi] at hx
  injection hx with hx
  subst hx
  rcases h e he with h | h
  ·rw [hb] at h;cases h
  ·exact h
 ·intro h e he
  cases hb:Region.binds .any e with
  | false=>exact .inl rfl
  | true=>exact .inr (h e.on (edge_iff.2 ⟨_,List.getElem?_eq_getElem hi,e,he,hb,rfl⟩))
/- what is listed was waited for -/
def Down (full:List Oper) (listed:Array Bool):Prop:=∀ i i2,i < full.length→listed.getD i true=true→edgeB full i i2=true→listed.getD i2 false=true
theorem lex_lt {full:List Oper} (h:lexE full=true) {i i2:Nat} (he:edgeB full i i2=true):i2 < i∧i < full.length:=by
 rw [edge_iff] at he
 obtain ⟨x,hx,e,hm,hb,rfl⟩:=he
 have hi:=(List.getElem?_eq_some_iff.1 hx).1
 unfold lexE at h
 rw [List.all_eq_true] at h
 have q:=h i (List.mem_range.2 hi)
 rw [hx] at q
 simp only [Option.map_some,Option.getD_some,Array.all_eq_true',Bool.or_eq_true,Bool.not_eq_true'] at q
 rcases q e hm with q | q
 ·rw [hb] at q;cases q
 ·exact ⟨by simpa using q,hi⟩
theorem getD_in {listed:Array Bool} {i:Nat} (h:i < listed.size) (b c:Bool):listed.getD i b=listed.getD i c:=by simp [Array.getD,h]
theorem down_set {full:List Oper} {listed:Array Bool} (hs:listed.size=full.length) (hd:Down full listed) (hx:lexE full=true) {k:Nat} (hk:k∈Region.ready .any full.toArray listed):Down full (listed.setIfInBounds k true):=fun i i2 hi hl he=>by
 have h2:=lex_lt hx he
 have q:listed.getD i2 false=true:=by
  by_cases e:i=k
  ·subst e
   exact (mem_rdy.1 hk).2.2 i2 he
  ·refine hd i i2 hi ?_ he
   have:i < listed.size:=by omega
   simpa [Array.getD,this,Array.getElem_setIfInBounds,Ne.symm e] using hl
 have:i2 < listed.size:=by omega
 by_cases e:k=i2
 ·subst e;simp [Array.getD,this]
 ·simp only [Array.getD,this,dif_pos] at q
  simp [Array.getD,this,Array.getElem_setIfInBounds,e]
  exact q
theorem cov_all {full:List Oper} {listed:Array Bool} (hs:listed.size=full.length) (hd:Down full listed) {j:Nat} (hj:j < full.length) (hc:covB full j=true) (hr:∀ i2,edgeB full j i2=true→listed.getD i2 false=true):∀ n i,j - i≤n→i < j→listed.getD i false=true:=by
 intro n
 induction n with
 | zero=>intro i h1 h2;omega
 | succ n ih=>
  intro i h1 h2
  unfold covB at hc
  rw [List.all_eq_true] at hc
  have q:=hc i (List.mem_range.2 h2)
  rw [List.any_eq_true] at q
  obtain ⟨i',hm,q⟩:=q
  rw [List.mem_range] at hm
  rw [Bool.and_eq_true,decide_eq_true_eq] at q
  by_cases e:i'=j
  ·subst e;exact hr i q.2
  ·have:=ih i' (by omega) (by omega)
   exact hd i' i (by omega) (by rw [getD_in (by omega) true false];exact this) q.2
theorem rdy_some {full:List Oper} (hx:lexE full=true) {listed:Array Bool} (hs:listed.size=full.length):∀ (k:Nat),k < full.length→listed.getD k true=false→∃ i,i≤k∧i∈Region.ready .any full.toArray listed:=by
 intro k
 induction k using Nat.strongRecOn with
 | ind k ih=>
  intro hk hf
  by_cases h:∃ j,j < k∧listed.getD j true=false
  ·obtain ⟨j,h1,h2⟩:=h
   obtain ⟨i,h3,h4⟩:=ih j h1 (by omega) h2
   exact ⟨i,by omega,h4⟩
  ·refine ⟨k,Nat.le_refl _,mem_rdy.2 ⟨hk,hf,fun i2 he=>?_⟩⟩
   have h2:=lex_lt hx he
   have hn:¬ listed.getD i2 true=false:=fun hh=>h ⟨i2,h2.1,hh⟩
   rw [getD_in (by omega) false true]
   simpa using hn
/- all below k are listed, none from k on -/
def Upto (n:Nat) (listed:Array Bool) (k:Nat):Prop:=listed.size=n∧(∀ i,i < k→i < n→listed.getD i true=true)∧∀ i,k≤i→i < n→listed.getD i true=false
theorem Upto.next {n k:Nat} {listed:Array Bool} (h:Upto n listed k) (hk:k < n):Upto n (listed.setIfInBounds k true) (k+1):=by
 obtain ⟨h1,h2,h3⟩:=h
 refine ⟨by simpa using h1,fun i a b=>?_,fun i a b=>?_⟩
 ·have hi:i < listed.size:=by omega
  by_cases e:k=i
  ·subst e;simp [Array.getD,hi]
  ·have q:=h2 i (by omega) b
   simp only [Array.getD,hi,dif_pos] at q
   simp [Array.getD,hi,Array.getElem_setIfInBounds,e]
   exact q
 ·have hi:i < listed.size:=by omega
  have q:=h3 i (by omega) b
  simp only [Array.getD,hi,dif_pos] at q
  simp [Array.getD,hi,Array.getElem_setIfInBounds,show ¬ k=i by omega]
  exact q
theorem forced {P:Program} {Q:Exit→Act→World→Prop} {full:List Oper} (hx:lexE full=true):∀ (t:List Oper) (k:Nat) (listed:Array Bool) (a:Act) (w:World),full.drop k=t→(∀ j,k≤j→j < full.length→covB full j=true)→Down full listed→Upto full.length listed k→wpList P full.toArray Q t a w→wpAny P .any full.toArray Q t.length listed a w
 | [],k,listed,a,w,ht,hc,hd,hu,h=>by
  have hk:full.length≤k:=List.drop_eq_nil_iff.1 ht
  refine ⟨List.eq_nil_iff_forall_not_mem.2 fun i hi=>?_,h⟩
  obtain ⟨h1,h2,-⟩:=mem_rdy.1 hi
  rw [hu.2.1 i (by omega) h1] at h2
  cases h2
 | o::t,k,listed,a,w,ht,hc,hd,hu,h=>by
  have hk:k < full.length:=by
   rcases Nat.lt_or_ge k full.length with q | q
   ·exact q
   ·rw [List.drop_eq_nil_of_le q] at ht;cases ht
  have ho:full[k]? =some o:=by
   have:(full.drop k)[0]? =some o:=by rw [ht];rfl
   rw [List.getElem?_drop] at this
   simpa using this
  have hall:∀ i,i∈Region.ready .any full.toArray listed→i=k:=fun i hi=>by
   obtain ⟨h1,h2,h3⟩:=mem_rdy.1 hi
   rcases Nat.lt_trichotomy i k with q | q | q
   ·rw [hu.2.1 i q h1] at h2;cases h2
   ·exact q
   ·have c:=cov_all hu.1 hd h1 (hc i (by omega) h1) h3 i k (by omega) q
    have c2:=hu.2.2 k (Nat.le_refl _) hk
    rw [getD_in (by have:=hu.1;omega) true false,c] at c2
    cases c2
  refine ⟨fun h0=>?_,fun i hi=>?_⟩
  ·obtain ⟨i,-,hi⟩:=rdy_some hx hu.1 k hk (hu.2.2 k (Nat.le_refl _) hk)
   rw [h0] at hi
   cases hi
  ·have e:=hall i hi
   subst e
   unfold wpList at h
   unfold wpOp
   have ho2:full.toArray[i]? =some o:=by rw [List.getElem?_toArray];exact ho
   have hd2:=down_set hu.1 hd hx hi
   have go:∀ a' w',wpList P full.toArray Q t a' w'→wpAny P .any full.toArray Q t.length (listed.setIfInBounds i true) a' w':=fun a' w' hh=>forced hx t (i+1) _ a' w' (by rw [← List.drop_drop,ht];rfl) (fun j a b=>hc j (by omega) b) hd2 (hu.next hk) hh
   simp only [ho2]
   split
   ·rename_i hw
    rw [if_pos hw] at h
    exact h.imp (Oper.wp_mono go) id
   ·rename_i hw
    rw [if_neg hw] at h
    exact go _ _ h
theorem take_at {full:List Oper} {k i:Nat} (h:i < k):(full.take k)[i]? =full[i]? :=by rw [List.getElem?_take];simp [h]
theorem edge_take {full:List Oper} {k i i2:Nat} (h:i < k):edgeB (full.take k) i i2=edgeB full i i2:=by unfold edgeB;rw [take_at h]
/- the first k in whatever order, then the others -/
theorem suf_conv {P : Program} {Q : Exit → Act → World → Prop} {C : World → Prop} {Qa : Act → Prop} {full : List Oper} {k : Nat} (hk : k < full.length) (hx : lexE full = true) (hc : ∀ j, k ≤ j → j < full.length → covB full j = true) (hy : ∀ i x, i < k → full[i]? = some x → ∀ t : Array Value, Region.wanted x (yielded (full.take k).toArray t) = Region.wanted x (yielded full.toArray t))
  (hQ:∀ a w,C w→Qa a→wpList P full.toArray Q (full.drop k) a w):
  ∀ (fuel:Nat) (l1 listed:Array Bool) (a:Act) (w:World),listed.size=full.length→l1.size=k→(∀ i,i < k→l1.getD i true=listed.getD i true)→(∀ i,k≤i→i < full.length→listed.getD i true=false)→Down full listed→C w→wpAnyQ P .any (full.take k).toArray C Qa fuel l1 a→wpAny P .any full.toArray Q (fuel+(full.length - k)) listed a w:=by
 have hl:(full.take k).length=k:=by rw [List.length_take];omega
 have hx1:lexE (full.take k)=true:=by
  unfold lexE at hx ⊢
  rw [List.all_eq_true] at hx ⊢
  intro i hi
  rw [List.mem_range,hl] at hi
  rw [take_at hi]
  exact hx i (List.mem_range.2 (by omega))
 have fin:∀ (fuel:Nat) (l1 listed:Array Bool) (a:Act) (w:World),listed.size=full.length→l1.size=k→(∀ i,i < k→l1.getD i true=listed.getD i true)→(∀ i,k≤i→i < full.length→listed.getD i true=false)→Down full listed→Region.ready .any (full.take k).toArray l1=[]→wpList P full.toArray Q (full.drop k) a w→wpAny P .any full.toArray Q (fuel+(full.length - k)) listed a w:=by
  intro fuel l1 listed a w hs h1 hsame hun hd h0 hw
  have hup:Upto full.length listed k:=by
   refine ⟨hs,fun i a1 a2=>?_,hun⟩
   rw [← hsame i a1]
   cases hb:l1.getD i true with
   | true=>rfl
   | false=>
    obtain ⟨i',-,hi'⟩:=rdy_some hx1 (by omega) i (by omega) hb
    rw [h0] at hi'
    cases hi'
  have q:=forced (P:=P) (Q:=Q) hx (full.drop k) k listed a w rfl hc hd hup hw
  have mono:∀ (n:Nat) (f:Nat) (l:Array Bool) (a:Act) (w:World),wpAny P .any full.toArray Q f l a w→wpAny P .any full.toArray Q (n+f) l a w:=by
   intro n f
   induction f with
   | zero=>
    intro l a w h
    cases n with
    | zero=>exact h
    | succ n=>exact ⟨fun _=>h.2,by rw [h.1];simp⟩
   | succ f ih=>intro l a w h;exact ⟨h.1,fun i hi=>wpOp_mono (fun a' w' hh=>ih _ a' w' hh) (h.2 i hi)⟩
  have e:(full.drop k).length=full.length - k:=List.length_drop
  rw [e] at q
  exact mono fuel _ _ _ _ q
 intro fuel
 induction fuel with
 | zero=>
  intro l1 listed a w hs h1 hsame hun hd hC h
  exact fin 0 l1 listed a w hs h1 hsame hun hd h.1 (hQ a w hC h.2)
 | succ fuel ih=>
  intro l1 listed a w hs h1 hsame hun hd hC h
  by_cases h0:Region.ready .any (full.take k).toArray l1=[]
  ·exact fin (fuel+1) l1 listed a w hs h1 hsame hun hd h0 (hQ a w hC (h.1 h0))
  ·rw [show fuel+1+(full.length - k)=(fuel+(full.length - k))+1 by omega]
   have hlt:∀ i,i∈Region.ready .any full.toArray listed→i < k:=fun i hi=>by
    rcases Nat.lt_or_ge i k with q | q
    ·exact q
    ·exfalso
     obtain ⟨a1,a2,a3⟩:=mem_rdy.1 hi
     apply h0
     refine List.eq_nil_iff_forall_not_mem.2 fun j hj=>?_
     obtain ⟨b1,b2,-⟩:=mem_rdy.1 hj
     rw [hl] at b1
     have c:=cov_all hs hd a1 (hc i q a1) a3 i j (by omega) (by omega)
     rw [hsame j b1,getD_in (by omega) true false,c] at b2
     cases b2
   refine ⟨fun hn=>?_,fun i hi=>?_⟩
   ·obtain ⟨i,-,hi⟩:=rdy_some hx hs k hk (hun k (Nat.le_refl _) hk)
    rw [hn] at hi
    cases hi
   ·have hik:=hlt i hi
    obtain ⟨a1,a2,a3⟩:=mem_rdy.1 hi
    have hi1:i∈Region.ready .any (full.take k).toArray l1:=by
     refine mem_rdy.2 ⟨by omega,by rw [hsame i hik];exact a2,fun i2 he=>?_⟩
     rw [edge_take hik] at he
     have:=(lex_lt hx he).1
     rw [getD_in (by omega) false true,hsame i2 (by omega),getD_in (by omega) true false]
     exact a3 i2 he
    have hq:=h.2 i hi1
    obtain ⟨o,ho⟩:∃ o,full[i]? =some o:=⟨_,List.getElem?_eq_getElem a1⟩
    have hq':qOp P full.toArray C i (wpAnyQ P .any (full.take k).toArray C Qa fuel (l1.setIfInBounds i true)) a:=by
     unfold qOp at hq ⊢
     rw [List.getElem?_toArray] at hq ⊢
     rw [take_at hik,ho] at hq
     rw [ho]
     simp only at hq ⊢
     rw [hy i o hik ho] at hq
     exact hq
    refine wpOp_of_qOp hC (fun a' w' hC' hk'=>ih _ _ a' w' (by simpa using hs) (by simpa using h1) (fun j hj=>?_) (fun j b1 b2=>?_) (down_set hs hd hx hi) hC' hk') hq'
    ·have j1:j < l1.size:=by omega
     have j2:j < listed.size:=by omega
     have q:=hsame j hj
     simp only [Array.getD,j1,j2,dif_pos] at q
     by_cases e:i=j
     ·subst e;simp [Array.getD,j1,j2]
     ·simp [Array.getD,j1,j2,Array.getElem_setIfInBounds,e]
      exact q
    ·have j2:j < listed.size:=by omega
     have q:=hun j b1 b2
     simp only [Array.getD,j2,dif_pos] at q
     simp [Array.getD,j2,Array.getElem_setIfInBounds,show ¬ i=j by omega]
     exact q
/- no guard among the first k looks beyond them -/
def grdB (full:List Oper) (k:Nat):Bool:=(full.take k).all fun x=>match x.guard with | some (g,_)=>decide (g < k) | none=>true
theorem regionSuf {P : Program} {id : Nat} {Q : Exit → Act → World → Prop} {a : Act} (W : World) {full : List Oper} (k : Nat) (hk : decide (k < full.length) = true) (hm : P.follows .mixedOrders = true) (hB : Region.lexB .any (full.take k).toArray = true) (hS : sufOk full k = true) (hG : grdB full k = true)
  (h:wpQuiet P (full.take k).toArray (fun w'=>∃ x:Ext W,w'=x.w) (fun a'=>∀ w',(∃ x:Ext W,w'=x.w)→wpList P full.toArray Q (full.drop k) a' w') (full.take k) a):(Code.region id full.toArray true).wp P Q a W:=by
 rw [decide_eq_true_eq] at hk
 unfold sufOk at hS
 rw [Bool.and_eq_true,List.all_eq_true] at hS
 obtain ⟨hx,hc⟩:=hS
 have hc':∀ j,k≤j→j < full.length→covB full j=true:=fun j a1 a2=>by
  have q:=hc j (List.mem_range.2 a2)
  rw [Bool.or_eq_true,decide_eq_true_eq] at q
  rcases q with q | q
  ·omega
  ·exact q
 have hl:(full.take k).length=k:=by rw [List.length_take];omega
 simp only [Region.lexB,Bool.and_eq_true] at hB
 have h2:=wpAnyQ_lex (md:=.any) hB.1 (full.take k) 0 (Array.replicate (full.take k).toArray.size false) a (by simp) (by simpa using hB.2) h
 refine wp_region_any hm ?_
 have hy:∀ i x,i < k→full[i]? =some x→∀ t:Array Value,Region.wanted x (yielded (full.take k).toArray t)=Region.wanted x (yielded full.toArray t):=fun i x hi hx' t=>by
  unfold grdB at hG
  rw [List.all_eq_true] at hG
  have q:=hG x (List.mem_of_getElem? (by rw [take_at hi];exact hx'))
  unfold Region.wanted
  cases hg:x.guard with
  | none=>rfl
  | some y=>
   rw [hg] at q
   simp only [decide_eq_true_eq] at q
   have e:yielded (full.take k).toArray t y.1=yielded full.toArray t y.1:=by
    unfold yielded
    rw [List.getElem?_toArray,List.getElem?_toArray,take_at q]
   simp only [e]
 have q:=suf_conv (P:=P) (Q:=Q) (C:=fun w'=>∃ x:Ext W,w'=x.w) (Qa:=fun a'=>∀ w',(∃ x:Ext W,w'=x.w)→wpList P full.toArray Q (full.drop k) a' w') hk hx hc' hy (fun a' w' hC hh=>hh w' hC) k (Array.replicate k false) (Array.replicate full.length false) a { W with drawn:=W.drawn+1 } (by simp) (by simp) (fun i hi=>by simp [Array.getD,hi,show i < full.length by omega]) (fun i _ hi=>by simp [Array.getD,hi]) (fun i i2 hi hl=>by simp [Array.getD,hi] at hl) ⟨⟨{ W with drawn:=W.drawn+1 },⟨rfl,rfl,rfl,Nat.le_refl _,fun _ _=>rfl⟩⟩,rfl⟩ (by simp only [List.size_toArray,hl] at h2;exact h2)
 have e:k+(full.length - k)=full.toArray.size:=by simp;omega
 rw [e] at q
 simpa using q
end
end Go.Proofs.YtepfpbcjklaenaaGreat
