/- How the laws compare rows of code. Conditions: they are counted. How the laws compare rows of cores. Conditions: they are counted. How the laws compare machines. Conditions: they are counted. -/
import Derived.Test.YtlbeploopclegaaGreatPG00
import Derived.Test.YtlbeploopclegaaGreatPG01
import Derived.Test.YtlbeploopclegaaGreatPG02
import Derived.Test.YtlbeploopclegaaGreatPG03
import Derived.Test.YtlbeploopclegaaGreatPG06
import Derived.Deep.RegionWith
import Derived.Test.YtlbeploopclegaaGreatPG04
import Derived.Test.YtlbeploopclegaaGreatPMemOk
import Derived.Test.YtlbeploopclegaaGreatPMemEq
namespace Go.Proofs.YtlbeploopclegaaGreat
set_option linter.unusedSimpArgs false
set_option linter.unusedVariables false
set_option maxRecDepth 100000
section
open Go.RowKit
set_option maxHeartbeats 1048576 in
theorem eqStepSS_alike (s s' : Option Addr) (c c' lo hi lo' hi' : Nat) (l : List (List I5)) (w : World) (h : CsR w lo hi s l) (h' : CsR w lo' hi' s' l) (hB : hi ≤ w.heap.size) (hB' : hi' ≤ w.heap.size) (hl : l.length + szC l ≤ 1048576) :
  Calls Tryz.prog 33 #[.slice s l.length c,.slice s' l.length c'] w fun e w'=>e=.returned (.bool true)∧Below w.heap.size w w':=by
 have H1:Hid (CsR w lo hi s l):=h
 have H2:Hid (CsR w lo' hi' s' l):=h'
 have Q3:Hid (∀ (i:Nat) (t:List I5),l[i]? =some t→t.length≤1048576):=fun i t ht=>by have:=szC_at l i t ht;omega
 have hl1:l.length≤1048576:=by omega
 clear h h' hl
 have hne:((l.length:Int) !=(l.length:Int))=false:=by simp
 go_enter Tryz.func33,Tryz.ntmps33
 go_wp2
 go_loopw [5] (fun i wr=>∃ k:Nat,k≤l.length∧i=.int .i64 k∧Below w.heap.size w wr) (fun i _=>l.length - (intOf i).toNat)
 case atStart=>exact ⟨0,Nat.zero_le _,rfl,Below.refl _ _⟩
 case round=>
  obtain ⟨k,hk,rfl,hb⟩:=hrel
  have HB:Hid (Below w.heap.size w wr):=hb
  have hsz:=hb.size
  clear hb
  by_cases hlt:k < l.length
  ·obtain ⟨t,ht⟩:∃ t,l[k]? =some t:=⟨_,List.getElem?_eq_getElem hlt⟩
   obtain ⟨g,off,s1,c1,hs,g1,g2,f1,hin⟩:=(H1.out.keep (Keep.of_below HB.out hB)).at ht
   obtain ⟨g',off',s2,c2,hs',g1',g2',f1',hin'⟩:=(H2.out.keep (Keep.of_below HB.out hB')).at ht
   subst hs
   subst hs'
   have hlen:=Q3.out k t ht
   have HI1:Hid (InsB wr wr.heap.size s1 t):=hin.insB.mono (by omega)
   have HI2:Hid (InsB wr wr.heap.size s2 t):=hin'.insB.mono (by omega)
   clear hin hin' ht
   have b0:(0:Int)≤(k:Int):=by omega
   have b1:(k:Int) < (l.length:Int):=by omega
   go_wp2_with fail
   first | go_region_with (go_at_call 70;refine (eqStepS_same s1 s2 c1 c2 wr.heap.size t _ ?_ ?_ ?_ (by omega)).mono ?_;(exact HI1.out);(exact HI2.out);(first | exact Nat.le_refl _ | omega | (simp;omega));rintro e w1 ⟨rfl,hb1⟩) | fail
   all_goals
    have HB1:Hid (Below wr.heap.size wr w1):=⟨hb1.os,hb1.tape,hb1.output,hb1.size,hb1.block⟩
    clear hb1
    go_wp2
    go_roundw
    case rel=>exact ⟨k+1,by omega,by go_num,HB.out.trans (HB1.out.mono hsz)⟩
    case measure=>simp [intOf];omega
  ·go_wp2
   go_ret
   exact ⟨rfl,HB.out⟩
end
section
open Go.RowKit
theorem two4 {w W:World} {a b c d a' b' c' d':Value} {T T':TypeId} (hW:(w.alloc (.cells #[a,b,c,d] T)).alloc (.cells #[a',b',c',d'] T')=W):Below w.heap.size w W∧B4 W w.heap.size a b c d∧B4 W (w.heap.size+1) a' b' c' d':=by
 subst hW
 refine ⟨((Below.refl _ _).alloc (Nat.le_refl _) _).alloc (by simp) _,⟨?_,?_,?_,?_,?_⟩,⟨?_,?_,?_,?_,?_⟩⟩<;>simp [go_sem]<;>omega
set_option maxHeartbeats 1000000 in
theorem eqCore_alike (pc st : Int) (s s' t t' : Option Addr) (l m : List Int) (c c' e e' lo hi lo' hi' : Nat) (w : World) (h : IntsR w lo hi s l) (h' : IntsR w lo' hi' s' l) (q : IntsR w lo hi t m) (q' : IntsR w lo' hi' t' m) (hB : hi ≤ w.heap.size) (hB' : hi' ≤ w.heap.size) (hl : l.length ≤ 1000000000) (hm : m.length ≤ 1000000000) :
  Calls Tryz.prog 71 #[.agg #[.int .i64 pc,.slice s l.length c,.slice t m.length e,.int .i64 st],.agg #[.int .i64 pc,.slice s' l.length c',.slice t' m.length e',.int .i64 st]] w fun e w'=>e=.returned (.bool true)∧Below w.heap.size w w':=by
 have H1:Hid (IntsR w lo hi s l):=h
 have H2:Hid (IntsR w lo' hi' s' l):=h'
 have Q1:Hid (IntsR w lo hi t m):=q
 have Q2:Hid (IntsR w lo' hi' t' m):=q'
 clear h h' q q'
 have e1:(pc !=pc)=false:=by simp
 have e2:(st !=st)=false:=by simp
 go_enter Tryz.func71,Tryz.ntmps71
 go_wp2_with fail
 try (first | go_region_with fail | skip)
 have k0:Below w.heap.size w ((w.alloc (.cells #[.int .i64 pc,.slice s l.length c,.slice t m.length e,.int .i64 st] 53)).alloc (.cells #[.int .i64 pc,.slice s' l.length c',.slice t' m.length e',.int .i64 st] 53)):=((Below.refl w.heap.size w).alloc (Nat.le_refl _) _).alloc (by simp) _
 refine (eqIntS_any s s' l l c c' _ ((H1.out.keep (Keep.of_below k0 hB)).ints (by simp;omega)) ((H2.out.keep (Keep.of_below k0 hB')).ints (by simp;omega)) (by omega)).mono ?_
 rintro r w1 ⟨rfl,m1,rfl⟩
 rw [decide_eq_true (rfl:l=l)]
 obtain ⟨W,hW⟩:∃ W,(w.alloc (.cells #[.int .i64 pc,.slice s l.length c,.slice t m.length e,.int .i64 st] 53)).alloc (.cells #[.int .i64 pc,.slice s' l.length c',.slice t' m.length e',.int .i64 st] 53)=W:=⟨_,rfl⟩
 obtain ⟨kw,⟨z0,-,-,a2,a3⟩,⟨z1,-,-,b2,b3⟩⟩:=two4 hW
 rw [hW]
 clear hW k0
 obtain ⟨V,hV⟩:∃ V,W.drewN m1=V:=⟨_,rfl⟩
 have kv:Below w.heap.size w V:=by rw [← hV];exact belowQ kw m1
 have z0':w.heap.size < V.heap.size:=by rw [← hV];exact z0
 have z1':w.heap.size+1 < V.heap.size:=by rw [← hV];exact z1
 have a2':V.cell? ⟨w.heap.size,2,none⟩=some (.slice t m.length e):=by rw [← hV];exact a2
 have b2':V.cell? ⟨w.heap.size+1,2,none⟩=some (.slice t' m.length e'):=by rw [← hV];exact b2
 have a3':V.cell? ⟨w.heap.size,3,none⟩=some (.int .i64 st):=by rw [← hV];exact a3
 have b3':V.cell? ⟨w.heap.size+1,3,none⟩=some (.int .i64 st):=by rw [← hV];exact b3
 rw [hV]
 have HV:Hid (Below w.heap.size w V):=kv
 clear hV kw kv a2 a3 b2 b3 z0 z1
 go_wp2_with fail
 refine (eqIntS_any t t' m m e e' _ ((Q1.out.keep (Keep.of_below HV.out hB)).ints (by omega)) ((Q2.out.keep (Keep.of_below HV.out hB')).ints (by omega)) (by omega)).mono ?_
 rintro r w1 ⟨rfl,m2,rfl⟩
 rw [decide_eq_true (rfl:m=m)]
 go_wp2
 go_ret
 exact ⟨rfl,belowQ HV.out _⟩
set_option maxHeartbeats 2000000 in
theorem eqCoreS_alike (s s' : Option Addr) (c c' lo hi lo' hi' : Nat) (l : List KD) (w : World) (h : KsR w lo hi s l) (h' : KsR w lo' hi' s' l) (hB : hi ≤ w.heap.size) (hB' : hi' ≤ w.heap.size) (hl : l.length + szK l ≤ 2000000) :
  Calls Tryz.prog 34 #[.slice s l.length c,.slice s' l.length c'] w fun e w'=>e=.returned (.bool true)∧Below w.heap.size w w':=by
 have H1:Hid (KsR w lo hi s l):=h
 have H2:Hid (KsR w lo' hi' s' l):=h'
 have Q3:Hid (∀ (i:Nat) (t:KD),l[i]? =some t→t.regs.length+t.vw.length≤2000000):=fun i t ht=>by have:=szK_at l i t ht;omega
 have hl1:l.length≤2000000:=by omega
 clear h h' hl
 have hne:((l.length:Int) !=(l.length:Int))=false:=by simp
 go_enter Tryz.func34,Tryz.ntmps34
 go_wp2
 go_loopw [5] (fun i wr=>∃ k:Nat,k≤l.length∧i=.int .i64 k∧Below w.heap.size w wr) (fun i _=>l.length - (intOf i).toNat)
 case atStart=>exact ⟨0,Nat.zero_le _,rfl,Below.refl _ _⟩
 case round=>
  obtain ⟨k,hk,rfl,hb⟩:=hrel
  have HB:Hid (Below w.heap.size w wr):=hb
  have hsz:=hb.size
  clear hb
  by_cases hlt:k < l.length
  ·obtain ⟨t,ht⟩:∃ t,l[k]? =some t:=⟨_,List.getElem?_eq_getElem hlt⟩
   obtain ⟨g,off,s1,c1,s3,c3,hs,g1,g2,f0,f1,f2,f3,hin,kin⟩:=(H1.out.keep (Keep.of_below HB.out hB)).at ht
   obtain ⟨g',off',s2,c2,s4,c4,hs',g1',g2',f0',f1',f2',f3',hin',kin'⟩:=(H2.out.keep (Keep.of_below HB.out hB')).at ht
   subst hs
   subst hs'
   have hlen:=Q3.out k t ht
   obtain ⟨v,rg,vw,st⟩:=t
   simp only at f0 f1 f2 f3 f0' f1' f2' f3' hin hin' kin kin' hlen
   have KI1:Hid (IntsR wr lo hi s3 vw):=kin
   have KI2:Hid (IntsR wr lo' hi' s4 vw):=kin'
   clear kin kin'
   have HI1:Hid (IntsR wr lo hi s1 rg):=hin
   have HI2:Hid (IntsR wr lo' hi' s2 rg):=hin'
   clear hin hin' ht
   have b0:(0:Int)≤(k:Int):=by omega
   have b1:(k:Int) < (l.length:Int):=by omega
   go_wp2_with fail
   first | go_region_with (go_at_call 71;refine (eqCore_alike v st s1 s2 s3 s4 rg vw c1 c2 c3 c4 lo hi lo' hi' _ ?_ ?_ ?_ ?_ ?_ ?_ (by omega) (by omega)).mono ?_;(exact HI1.out);(exact HI2.out);(exact KI1.out);(exact KI2.out);(first | omega | (simp;omega));(first | omega | (simp;omega));rintro e w1 ⟨rfl,hb1⟩) | fail
   all_goals
    have HB1:Hid (Below wr.heap.size wr w1):=⟨hb1.os,hb1.tape,hb1.output,hb1.size,hb1.block⟩
    clear hb1
    go_wp2
    go_roundw
    case rel=>exact ⟨k+1,by omega,by go_num,HB.out.trans (HB1.out.mono hsz)⟩
    case measure=>simp [intOf];omega
  ·go_wp2
   go_ret
   exact ⟨rfl,HB.out⟩
end
section
open Go.RowKit
set_option maxHeartbeats 2000000 in
theorem eqMachine_alike (s1 s2 s3 s4 t1 t2 t3 t4 : Option Addr) (c1 c2 c3 c4 f1 f2 f3 f4 lo hi lo' hi' : Nat) (d : MD) (w : World) (h : MaR w lo hi s1 s2 s3 s4 d) (h' : MaR w lo' hi' t1 t2 t3 t4 d) (hB : hi ≤ w.heap.size) (hB' : hi' ≤ w.heap.size) (hf : MaFits d) :
  Calls Tryz.prog 9 #[.agg #[.slice s1 d.codes.length c1,.slice s2 d.cores.length c2,.slice s3 d.mem.length c3,.slice s4 d.tr.length c4],.agg #[.slice t1 d.codes.length f1,.slice t2 d.cores.length f2,.slice t3 d.mem.length f3,.slice t4 d.tr.length f4]] w fun e w'=>e=.returned (.bool true)∧Below w.heap.size w w':=by
 have H:Hid (MaR w lo hi s1 s2 s3 s4 d):=h
 have H':Hid (MaR w lo' hi' t1 t2 t3 t4 d):=h'
 have F1:d.codes.length+szC d.codes≤1048576:=hf.c
 have F2:d.cores.length+szK d.cores≤2000000:=by have:=hf.k;omega
 have F3:d.mem.length+szR d.mem≤2000000:=hf.m
 have F4:d.tr.length≤2000000:=hf.t
 clear h h' hf
 go_enter Tryz.func9,Tryz.ntmps9
 go_wp2_with fail
 obtain ⟨W,hW⟩:∃ W,(w.alloc (.cells #[.slice s1 d.codes.length c1,.slice s2 d.cores.length c2,.slice s3 d.mem.length c3,.slice s4 d.tr.length c4] 38)).alloc (.cells #[.slice t1 d.codes.length f1,.slice t2 d.cores.length f2,.slice t3 d.mem.length f3,.slice t4 d.tr.length f4] 38)=W:=⟨_,rfl⟩
 obtain ⟨ka,ba,bb⟩:=two4 hW
 rw [hW]
 clear hW
 have A0:Hid (B4 W w.heap.size (.slice s1 d.codes.length c1) (.slice s2 d.cores.length c2) (.slice s3 d.mem.length c3) (.slice s4 d.tr.length c4)):=ba
 have B0:Hid (B4 W (w.heap.size+1) (.slice t1 d.codes.length f1) (.slice t2 d.cores.length f2) (.slice t3 d.mem.length f3) (.slice t4 d.tr.length f4)):=bb
 have K0:Hid (Below w.heap.size w W):=ka
 have z0:=ba.z
 clear ka ba bb
 refine (eqStepSS_alike s1 t1 c1 f1 lo hi lo' hi' d.codes W (H.out.keep (Keep.of_below K0.out hB)).1 (H'.out.keep (Keep.of_below K0.out hB')).1 (by omega) (by omega) F1).mono ?_
 rintro e w1 ⟨rfl,hb1⟩
 have A1:Hid (B4 w1 w.heap.size (.slice s1 d.codes.length c1) (.slice s2 d.cores.length c2) (.slice s3 d.mem.length c3) (.slice s4 d.tr.length c4)):=A0.out.keep (hb1.mono (Nat.le_refl _)) A0.out.z
 have B1:Hid (B4 w1 (w.heap.size+1) (.slice t1 d.codes.length f1) (.slice t2 d.cores.length f2) (.slice t3 d.mem.length f3) (.slice t4 d.tr.length f4)):=B0.out.keep (hb1.mono (Nat.le_refl _)) B0.out.z
 have K1:Hid (Below w.heap.size w w1):=K0.out.trans (hb1.mono (by omega))
 clear hb1
 have a1:=A1.out
 have b1:=B1.out
 obtain ⟨p0,p1,p2,p3,p4⟩:=a1
 obtain ⟨q0,q1,q2,q3,q4⟩:=b1
 go_wp2_with fail
 refine (eqCoreS_alike s2 t2 c2 f2 lo hi lo' hi' d.cores w1 (H.out.keep (Keep.of_below K1.out hB)).2.1 (H'.out.keep (Keep.of_below K1.out hB')).2.1 (by omega) (by omega) F2).mono ?_
 rintro e w2 ⟨rfl,hb2⟩
 have A2:Hid (B4 w2 w.heap.size (.slice s1 d.codes.length c1) (.slice s2 d.cores.length c2) (.slice s3 d.mem.length c3) (.slice s4 d.tr.length c4)):=A1.out.keep (hb2.mono (Nat.le_refl _)) A1.out.z
 have B2:Hid (B4 w2 (w.heap.size+1) (.slice t1 d.codes.length f1) (.slice t2 d.cores.length f2) (.slice t3 d.mem.length f3) (.slice t4 d.tr.length f4)):=B1.out.keep (hb2.mono (Nat.le_refl _)) B1.out.z
 have K2:Hid (Below w.heap.size w w2):=K1.out.trans (hb2.mono (by omega))
 clear hb2
 have a2:=A2.out
 have b2:=B2.out
 obtain ⟨p0,p1,p2,p3,p4⟩:=a2
 obtain ⟨q0,q1,q2,q3,q4⟩:=b2
 go_wp2_with fail
 refine (eqMemory_alike s3 t3 c3 f3 lo hi lo' hi' d.mem w2 (H.out.keep (Keep.of_below K2.out hB)).2.2.1 (H'.out.keep (Keep.of_below K2.out hB')).2.2.1 (by omega) (by omega) F3).mono ?_
 rintro e w3 ⟨rfl,hb3⟩
 have A3:Hid (B4 w3 w.heap.size (.slice s1 d.codes.length c1) (.slice s2 d.cores.length c2) (.slice s3 d.mem.length c3) (.slice s4 d.tr.length c4)):=A2.out.keep (hb3.mono (Nat.le_refl _)) A2.out.z
 have B3:Hid (B4 w3 (w.heap.size+1) (.slice t1 d.codes.length f1) (.slice t2 d.cores.length f2) (.slice t3 d.mem.length f3) (.slice t4 d.tr.length f4)):=B2.out.keep (hb3.mono (Nat.le_refl _)) B2.out.z
 have K3:Hid (Below w.heap.size w w3):=K2.out.trans (hb3.mono (by omega))
 clear hb3
 have a3:=A3.out
 have b3:=B3.out
 obtain ⟨p0,p1,p2,p3,p4⟩:=a3
 obtain ⟨q0,q1,q2,q3,q4⟩:=b3
 go_wp2_with fail
 refine (eqNoteS_alike s4 t4 c4 f4 lo hi lo' hi' d.tr w3 (H.out.keep (Keep.of_below K3.out hB)).2.2.2 (H'.out.keep (Keep.of_below K3.out hB')).2.2.2 (by omega) (by omega) F4).mono ?_
 rintro e w4 ⟨rfl,hb4⟩
 have A4:Hid (B4 w4 w.heap.size (.slice s1 d.codes.length c1) (.slice s2 d.cores.length c2) (.slice s3 d.mem.length c3) (.slice s4 d.tr.length c4)):=A3.out.keep (hb4.mono (Nat.le_refl _)) A3.out.z
 have B4:Hid (B4 w4 (w.heap.size+1) (.slice t1 d.codes.length f1) (.slice t2 d.cores.length f2) (.slice t3 d.mem.length f3) (.slice t4 d.tr.length f4)):=B3.out.keep (hb4.mono (Nat.le_refl _)) B3.out.z
 have K4:Hid (Below w.heap.size w w4):=K3.out.trans (hb4.mono (by omega))
 clear hb4
 have a4:=A4.out
 have b4:=B4.out
 obtain ⟨p0,p1,p2,p3,p4⟩:=a4
 obtain ⟨q0,q1,q2,q3,q4⟩:=b4
 go_wp2
 go_ret
 exact ⟨rfl,K4.out⟩
end
end Go.Proofs.YtlbeploopclegaaGreat
