/- Emit of the specification for places of a channel. Conditions: the channel lies in memory. The code that the program puts together is the code that the specification lists. No condition. -/
import Derived.Test.YtkhjhibigldcgaaGreatBG00
import Derived.Test.YtkhjhibigldcgaaGreatBG06
import Derived.Test.YtkhjhibigldcgaaGreatBG20
import Derived.Test.YtkhjhibigldcgaaGreatBE10SpS
import Derived.Test.YtkhjhibigldcgaaGreatBG05
import Derived.Test.YtkhjhibigldcgaaGreatBG07
import Derived.Test.YtkhjhibigldcgaaGreatBE10SpT
import Derived.Test.YtkhjhibigldcgaaGreatBSpecIns
import Derived.Deep.DeepCutAuto
namespace Go.Proofs.YtkhjhibigldcgaaGreat
section
set_option linter.unusedSimpArgs false
set_option linter.unusedVariables false
set_option maxRecDepth 100000
open Go.RowKit
set_option maxHeartbeats 4000000 in
theorem spE5 (r a x n fr:Int) (ss sk:Option Addr) (sl sc kl kc:Nat) (lo hi:Nat) (caps:List Int) (b rm:Int) (w:World) (hok:Plain.insB 5 r a x n sl kl=true) (hkl:caps.length=kl) (hcp:IntsR w lo hi sk caps) (hhi:hi≤w.heap.size) (hcl:caps.length≤2000000) (hbs:baseV caps n=b) (hb0:0≤b) (hb1:b≤20) (hn0:0≤n) (hn1:n < (kl:Int)) (hrm:caps.getD n.toNat 0=rm):Calls Tryz.prog 56 #[.slice sk kl kc,.agg #[.int .i64 5,.int .i64 r,.int .i64 a,.int .i64 x,.int .i64 n],.int .i64 fr,.slice ss sl sc] w fun e w'=>∃ g c,e=.returned (.slice (some ⟨g,0,none⟩) 29 c)∧OwnT5 w' w.heap.size (.slice (some ⟨g,0,none⟩) 29 c) (sendS5 r a b rm fr)∧Below w.heap.size w w':=by
 have HOK:=hid_of hok
 clear hok
 obtain ⟨W,hW,hx,hb,hz⟩:=XB.new w 5 r a x n 71
 have HX:=hid_of hx
 have HW:Hid (Below w.heap.size w W):=hb
 have HK:Hid (Below W.heap.size W W):=Below.refl _ _
 clear hx hb
 obtain ⟨q0,q1,q2,q3,q4,tl⟩:=HX.out
 have HB0:=hid_of hb0
 have HB1:=hid_of hb1
 obtain ⟨gi,oi,es,hg1,hg2,hgc⟩:=hcp.pos (by omega)
 obtain ⟨m,rfl⟩:∃ m:Nat,n=(m:Int):=⟨n.toNat,by omega⟩
 rw [Int.toNat_natCast] at hrm
 have hgi:gi < w.heap.size:=by omega
 have i1:=hgc m (by omega)
 rw [hrm] at i1
 have i0:=(HW.out.cell (p:=⟨gi,oi+m,none⟩) hgi).trans i1
 have HI0:=hid_of i0
 have hgW:gi < W.heap.size:=by have:=HW.out.size;omega
 have HCP:=hid_of (hcp.keep (Keep.of_below HW.out hhi))
 have hhW:hi≤W.heap.size:=by have:=HW.out.size;omega
 subst es
 clear hgc i1 hcp hrm hb1
 have e0:(0:Int)≤(m:Int):=by omega
 go_enter Tryz.func56,Tryz.ntmps56
 go_upto_region 27 with (first | (go_at_call 47;refine (specInsOk_any _ _ _ _ _ _ _ _).mono ?_;rintro e w1 ⟨rfl,hb1⟩;rw [HOK.out];have JK:=hid_of (Below.via (B:=W.heap.size) (w:=W) hb1 (Nat.le_refl _) (by repeat (first | with_reducible exact HK.out | with_reducible refine Below.drew ?_ | with_reducible refine Below.alloc ?_ (by have:=HK.out.size;first | omega | (simp;omega)) _)));clear HK;have HK:=JK;clear JK hb1;clear q0 q1 q2 q3 q4 tl;obtain ⟨q0,q1,q2,q3,q4,tl⟩:=HX.out.keep HK.out;clear i0;have i0:=(HK.out.cell (p:=⟨gi,oi+m,none⟩) hgW).trans HI0.out) | (go_at_call 80;rw [← hkl];refine (specBase_any _ kc lo hi caps _ _ (HCP.out.keep (Keep.of_below HK.out hhW)) (by have:=HK.out.size;omega) hcl).mono ?_;rintro e w1 ⟨rfl,hb1⟩;rw [hbs];have JK:=hid_of (Below.via (B:=W.heap.size) (w:=W) hb1 (Nat.le_refl _) (by repeat (first | with_reducible exact HK.out | with_reducible refine Below.drew ?_ | with_reducible refine Below.alloc ?_ (by have:=HK.out.size;first | omega | (simp;omega)) _)));clear HK;have HK:=JK;clear JK hb1;clear q0 q1 q2 q3 q4 tl;obtain ⟨q0,q1,q2,q3,q4,tl⟩:=HX.out.keep HK.out;clear i0;have i0:=(HK.out.cell (p:=⟨gi,oi+m,none⟩) hgW).trans HI0.out))
 go_region_held3 (fun w'=>w'.cell? ⟨w.heap.size,0,none⟩=some (.int .i64 5)∧w'.cell? ⟨w.heap.size,1,none⟩=some (.int .i64 r)∧w'.cell? ⟨w.heap.size,2,none⟩=some (.int .i64 a)∧w'.cell? ⟨w.heap.size,3,none⟩=some (.int .i64 x)∧w'.cell? ⟨w.heap.size,4,none⟩=some (.int .i64 (m:Int))∧w'.cell? ⟨gi,oi+m,none⟩=some (.int .i64 rm)) (exact ⟨(HX.out.keep (by repeat (first | with_reducible exact HK.out | with_reducible refine Below.drew ?_ | with_reducible refine Below.alloc ?_ (by have:=HK.out.size;first | omega | (simp;omega)) _))).c0,(HX.out.keep (by repeat (first | with_reducible exact HK.out | with_reducible refine Below.drew ?_ | with_reducible refine Below.alloc ?_ (by have:=HK.out.size;first | omega | (simp;omega)) _))).c1,(HX.out.keep (by repeat (first | with_reducible exact HK.out | with_reducible refine Below.drew ?_ | with_reducible refine Below.alloc ?_ (by have:=HK.out.size;first | omega | (simp;omega)) _))).c2,(HX.out.keep (by repeat (first | with_reducible exact HK.out | with_reducible refine Below.drew ?_ | with_reducible refine Below.alloc ?_ (by have:=HK.out.size;first | omega | (simp;omega)) _))).c3,(HX.out.keep (by repeat (first | with_reducible exact HK.out | with_reducible refine Below.drew ?_ | with_reducible refine Below.alloc ?_ (by have:=HK.out.size;first | omega | (simp;omega)) _))).c4,((show Below W.heap.size W _ from (by repeat (first | with_reducible exact HK.out | with_reducible refine Below.drew ?_ | with_reducible refine Below.alloc ?_ (by have:=HK.out.size;first | omega | (simp;omega)) _))).cell (p:=⟨gi,oi+m,none⟩) hgW).trans HI0.out⟩) (first | (go_at_call 81;refine (sSend5 r a x _ b rm fr _ HB0.out HB1.out).mono ?_;rintro e w1 ⟨g5,c5,rfl,ho5,hb1⟩;have HO5:=hid_of ho5;clear ho5;have hz5:=HK.out.size;have JK:=hid_of (Below.via (B:=W.heap.size) (w:=W) hb1 (Nat.le_refl _) (by repeat (first | with_reducible exact HK.out | with_reducible refine Below.drew ?_ | with_reducible refine Below.alloc ?_ (by have:=HK.out.size;first | omega | (simp;omega)) _)));clear HK;have HK:=JK;clear JK hb1;clear q0 q1 q2 q3 q4 tl;obtain ⟨q0,q1,q2,q3,q4,tl⟩:=HX.out.keep HK.out;clear i0;have i0:=(HK.out.cell (p:=⟨gi,oi+m,none⟩) hgW).trans HI0.out))
 go_wp2
 go_ret
 have z0:=HW.out.size
 exact ⟨_,_,rfl,HO5.out.low (by first | omega | (show w.heap.size≤World.heap.size _;omega) | exact Nat.le_trans z0 hz5),HW.out.trans (HK.out.mono z0)⟩
set_option maxHeartbeats 4000000 in
theorem spE7 (r a x n fr:Int) (ss sk:Option Addr) (sl sc kl kc:Nat) (lo hi:Nat) (caps:List Int) (b rm:Int) (w:World) (hok:Plain.insB 7 r a x n sl kl=true) (hkl:caps.length=kl) (hcp:IntsR w lo hi sk caps) (hhi:hi≤w.heap.size) (hcl:caps.length≤2000000) (hbs:baseV caps n=b) (hb0:0≤b) (hb1:b≤20) (hn0:0≤n) (hn1:n < (kl:Int)) (hrm:caps.getD n.toNat 0=rm):Calls Tryz.prog 56 #[.slice sk kl kc,.agg #[.int .i64 7,.int .i64 r,.int .i64 a,.int .i64 x,.int .i64 n],.int .i64 fr,.slice ss sl sc] w fun e w'=>∃ g c,e=.returned (.slice (some ⟨g,0,none⟩) 31 c)∧OwnT5 w' w.heap.size (.slice (some ⟨g,0,none⟩) 31 c) (sendS7 r a b rm fr)∧Below w.heap.size w w':=by
 have HOK:=hid_of hok
 clear hok
 obtain ⟨W,hW,hx,hb,hz⟩:=XB.new w 7 r a x n 71
 have HX:=hid_of hx
 have HW:Hid (Below w.heap.size w W):=hb
 have HK:Hid (Below W.heap.size W W):=Below.refl _ _
 clear hx hb
 obtain ⟨q0,q1,q2,q3,q4,tl⟩:=HX.out
 have HB0:=hid_of hb0
 have HB1:=hid_of hb1
 obtain ⟨gi,oi,es,hg1,hg2,hgc⟩:=hcp.pos (by omega)
 obtain ⟨m,rfl⟩:∃ m:Nat,n=(m:Int):=⟨n.toNat,by omega⟩
 rw [Int.toNat_natCast] at hrm
 have hgi:gi < w.heap.size:=by omega
 have i1:=hgc m (by omega)
 rw [hrm] at i1
 have i0:=(HW.out.cell (p:=⟨gi,oi+m,none⟩) hgi).trans i1
 have HI0:=hid_of i0
 have hgW:gi < W.heap.size:=by have:=HW.out.size;omega
 have HCP:=hid_of (hcp.keep (Keep.of_below HW.out hhi))
 have hhW:hi≤W.heap.size:=by have:=HW.out.size;omega
 subst es
 clear hgc i1 hcp hrm hb1
 have e0:(0:Int)≤(m:Int):=by omega
 go_enter Tryz.func56,Tryz.ntmps56
 go_upto_region 27 with (first | (go_at_call 47;refine (specInsOk_any _ _ _ _ _ _ _ _).mono ?_;rintro e w1 ⟨rfl,hb1⟩;rw [HOK.out];have JK:=hid_of (Below.via (B:=W.heap.size) (w:=W) hb1 (Nat.le_refl _) (by repeat (first | with_reducible exact HK.out | with_reducible refine Below.drew ?_ | with_reducible refine Below.alloc ?_ (by have:=HK.out.size;first | omega | (simp;omega)) _)));clear HK;have HK:=JK;clear JK hb1;clear q0 q1 q2 q3 q4 tl;obtain ⟨q0,q1,q2,q3,q4,tl⟩:=HX.out.keep HK.out;clear i0;have i0:=(HK.out.cell (p:=⟨gi,oi+m,none⟩) hgW).trans HI0.out) | (go_at_call 80;rw [← hkl];refine (specBase_any _ kc lo hi caps _ _ (HCP.out.keep (Keep.of_below HK.out hhW)) (by have:=HK.out.size;omega) hcl).mono ?_;rintro e w1 ⟨rfl,hb1⟩;rw [hbs];have JK:=hid_of (Below.via (B:=W.heap.size) (w:=W) hb1 (Nat.le_refl _) (by repeat (first | with_reducible exact HK.out | with_reducible refine Below.drew ?_ | with_reducible refine Below.alloc ?_ (by have:=HK.out.size;first | omega | (simp;omega)) _)));clear HK;have HK:=JK;clear JK hb1;clear q0 q1 q2 q3 q4 tl;obtain ⟨q0,q1,q2,q3,q4,tl⟩:=HX.out.keep HK.out;clear i0;have i0:=(HK.out.cell (p:=⟨gi,oi+m,none⟩) hgW).trans HI0.out))
 go_region_held3 (fun w'=>w'.cell? ⟨w.heap.size,0,none⟩=some (.int .i64 7)∧w'.cell? ⟨w.heap.size,1,none⟩=some (.int .i64 r)∧w'.cell? ⟨w.heap.size,2,none⟩=some (.int .i64 a)∧w'.cell? ⟨w.heap.size,3,none⟩=some (.int .i64 x)∧w'.cell? ⟨w.heap.size,4,none⟩=some (.int .i64 (m:Int))∧w'.cell? ⟨gi,oi+m,none⟩=some (.int .i64 rm)) (exact ⟨(HX.out.keep (by repeat (first | with_reducible exact HK.out | with_reducible refine Below.drew ?_ | with_reducible refine Below.alloc ?_ (by have:=HK.out.size;first | omega | (simp;omega)) _))).c0,(HX.out.keep (by repeat (first | with_reducible exact HK.out | with_reducible refine Below.drew ?_ | with_reducible refine Below.alloc ?_ (by have:=HK.out.size;first | omega | (simp;omega)) _))).c1,(HX.out.keep (by repeat (first | with_reducible exact HK.out | with_reducible refine Below.drew ?_ | with_reducible refine Below.alloc ?_ (by have:=HK.out.size;first | omega | (simp;omega)) _))).c2,(HX.out.keep (by repeat (first | with_reducible exact HK.out | with_reducible refine Below.drew ?_ | with_reducible refine Below.alloc ?_ (by have:=HK.out.size;first | omega | (simp;omega)) _))).c3,(HX.out.keep (by repeat (first | with_reducible exact HK.out | with_reducible refine Below.drew ?_ | with_reducible refine Below.alloc ?_ (by have:=HK.out.size;first | omega | (simp;omega)) _))).c4,((show Below W.heap.size W _ from (by repeat (first | with_reducible exact HK.out | with_reducible refine Below.drew ?_ | with_reducible refine Below.alloc ?_ (by have:=HK.out.size;first | omega | (simp;omega)) _))).cell (p:=⟨gi,oi+m,none⟩) hgW).trans HI0.out⟩) (first | (go_at_call 81;refine (sSend7 r a x _ b rm fr _ HB0.out HB1.out).mono ?_;rintro e w1 ⟨g5,c5,rfl,ho5,hb1⟩;have HO5:=hid_of ho5;clear ho5;have hz5:=HK.out.size;have JK:=hid_of (Below.via (B:=W.heap.size) (w:=W) hb1 (Nat.le_refl _) (by repeat (first | with_reducible exact HK.out | with_reducible refine Below.drew ?_ | with_reducible refine Below.alloc ?_ (by have:=HK.out.size;first | omega | (simp;omega)) _)));clear HK;have HK:=JK;clear JK hb1;clear q0 q1 q2 q3 q4 tl;obtain ⟨q0,q1,q2,q3,q4,tl⟩:=HX.out.keep HK.out;clear i0;have i0:=(HK.out.cell (p:=⟨gi,oi+m,none⟩) hgW).trans HI0.out))
 go_wp2
 go_ret
 have z0:=HW.out.size
 exact ⟨_,_,rfl,HO5.out.low (by first | omega | (show w.heap.size≤World.heap.size _;omega) | exact Nat.le_trans z0 hz5),HW.out.trans (HK.out.mono z0)⟩
set_option maxHeartbeats 4000000 in
theorem spE6 (r a x n fr:Int) (ss sk:Option Addr) (sl sc kl kc:Nat) (lo hi:Nat) (caps:List Int) (b rm:Int) (w:World) (hok:Plain.insB 6 r a x n sl kl=true) (hkl:caps.length=kl) (hcp:IntsR w lo hi sk caps) (hhi:hi≤w.heap.size) (hcl:caps.length≤2000000) (hbs:baseV caps n=b) (hb0:0≤b) (hb1:b≤20) (hn0:0≤n) (hn1:n < (kl:Int)) (hrm:caps.getD n.toNat 0=rm):Calls Tryz.prog 56 #[.slice sk kl kc,.agg #[.int .i64 6,.int .i64 r,.int .i64 a,.int .i64 x,.int .i64 n],.int .i64 fr,.slice ss sl sc] w fun e w'=>∃ g c,e=.returned (.slice (some ⟨g,0,none⟩) 30 c)∧OwnT5 w' w.heap.size (.slice (some ⟨g,0,none⟩) 30 c) (takeS6 r x b rm fr)∧Below w.heap.size w w':=by
 have HOK:=hid_of hok
 clear hok
 obtain ⟨W,hW,hx,hb,hz⟩:=XB.new w 6 r a x n 71
 have HX:=hid_of hx
 have HW:Hid (Below w.heap.size w W):=hb
 have HK:Hid (Below W.heap.size W W):=Below.refl _ _
 clear hx hb
 obtain ⟨q0,q1,q2,q3,q4,tl⟩:=HX.out
 have HB0:=hid_of hb0
 have HB1:=hid_of hb1
 obtain ⟨gi,oi,es,hg1,hg2,hgc⟩:=hcp.pos (by omega)
 obtain ⟨m,rfl⟩:∃ m:Nat,n=(m:Int):=⟨n.toNat,by omega⟩
 rw [Int.toNat_natCast] at hrm
 have hgi:gi < w.heap.size:=by omega
 have i1:=hgc m (by omega)
 rw [hrm] at i1
 have i0:=(HW.out.cell (p:=⟨gi,oi+m,none⟩) hgi).trans i1
 have HI0:=hid_of i0
 have hgW:gi < W.heap.size:=by have:=HW.out.size;omega
 have HCP:=hid_of (hcp.keep (Keep.of_below HW.out hhi))
 have hhW:hi≤W.heap.size:=by have:=HW.out.size;omega
 subst es
 clear hgc i1 hcp hrm hb1
 have e0:(0:Int)≤(m:Int):=by omega
 go_enter Tryz.func56,Tryz.ntmps56
 go_upto_region 30 with (first | (go_at_call 47;refine (specInsOk_any _ _ _ _ _ _ _ _).mono ?_;rintro e w1 ⟨rfl,hb1⟩;rw [HOK.out];have JK:=hid_of (Below.via (B:=W.heap.size) (w:=W) hb1 (Nat.le_refl _) (by repeat (first | with_reducible exact HK.out | with_reducible refine Below.drew ?_ | with_reducible refine Below.alloc ?_ (by have:=HK.out.size;first | omega | (simp;omega)) _)));clear HK;have HK:=JK;clear JK hb1;clear q0 q1 q2 q3 q4 tl;obtain ⟨q0,q1,q2,q3,q4,tl⟩:=HX.out.keep HK.out;clear i0;have i0:=(HK.out.cell (p:=⟨gi,oi+m,none⟩) hgW).trans HI0.out) | (go_at_call 80;rw [← hkl];refine (specBase_any _ kc lo hi caps _ _ (HCP.out.keep (Keep.of_below HK.out hhW)) (by have:=HK.out.size;omega) hcl).mono ?_;rintro e w1 ⟨rfl,hb1⟩;rw [hbs];have JK:=hid_of (Below.via (B:=W.heap.size) (w:=W) hb1 (Nat.le_refl _) (by repeat (first | with_reducible exact HK.out | with_reducible refine Below.drew ?_ | with_reducible refine Below.alloc ?_ (by have:=HK.out.size;first | omega | (simp;omega)) _)));clear HK;have HK:=JK;clear JK hb1;clear q0 q1 q2 q3 q4 tl;obtain ⟨q0,q1,q2,q3,q4,tl⟩:=HX.out.keep HK.out;clear i0;have i0:=(HK.out.cell (p:=⟨gi,oi+m,none⟩) hgW).trans HI0.out))
 go_region_held3 (fun w'=>w'.cell? ⟨w.heap.size,0,none⟩=some (.int .i64 6)∧w'.cell? ⟨w.heap.size,1,none⟩=some (.int .i64 r)∧w'.cell? ⟨w.heap.size,2,none⟩=some (.int .i64 a)∧w'.cell? ⟨w.heap.size,3,none⟩=some (.int .i64 x)∧w'.cell? ⟨w.heap.size,4,none⟩=some (.int .i64 (m:Int))∧w'.cell? ⟨gi,oi+m,none⟩=some (.int .i64 rm)) (exact ⟨(HX.out.keep (by repeat (first | with_reducible exact HK.out | with_reducible refine Below.drew ?_ | with_reducible refine Below.alloc ?_ (by have:=HK.out.size;first | omega | (simp;omega)) _))).c0,(HX.out.keep (by repeat (first | with_reducible exact HK.out | with_reducible refine Below.drew ?_ | with_reducible refine Below.alloc ?_ (by have:=HK.out.size;first | omega | (simp;omega)) _))).c1,(HX.out.keep (by repeat (first | with_reducible exact HK.out | with_reducible refine Below.drew ?_ | with_reducible refine Below.alloc ?_ (by have:=HK.out.size;first | omega | (simp;omega)) _))).c2,(HX.out.keep (by repeat (first | with_reducible exact HK.out | with_reducible refine Below.drew ?_ | with_reducible refine Below.alloc ?_ (by have:=HK.out.size;first | omega | (simp;omega)) _))).c3,(HX.out.keep (by repeat (first | with_reducible exact HK.out | with_reducible refine Below.drew ?_ | with_reducible refine Below.alloc ?_ (by have:=HK.out.size;first | omega | (simp;omega)) _))).c4,((show Below W.heap.size W _ from (by repeat (first | with_reducible exact HK.out | with_reducible refine Below.drew ?_ | with_reducible refine Below.alloc ?_ (by have:=HK.out.size;first | omega | (simp;omega)) _))).cell (p:=⟨gi,oi+m,none⟩) hgW).trans HI0.out⟩) (first | (go_at_call 82;refine (sTake6 r a x _ b rm fr _ HB0.out HB1.out).mono ?_;rintro e w1 ⟨g5,c5,rfl,ho5,hb1⟩;have HO5:=hid_of ho5;clear ho5;have hz5:=HK.out.size;have JK:=hid_of (Below.via (B:=W.heap.size) (w:=W) hb1 (Nat.le_refl _) (by repeat (first | with_reducible exact HK.out | with_reducible refine Below.drew ?_ | with_reducible refine Below.alloc ?_ (by have:=HK.out.size;first | omega | (simp;omega)) _)));clear HK;have HK:=JK;clear JK hb1;clear q0 q1 q2 q3 q4 tl;obtain ⟨q0,q1,q2,q3,q4,tl⟩:=HX.out.keep HK.out;clear i0;have i0:=(HK.out.cell (p:=⟨gi,oi+m,none⟩) hgW).trans HI0.out))
 go_wp2
 go_ret
 have z0:=HW.out.size
 exact ⟨_,_,rfl,HO5.out.low (by first | omega | (show w.heap.size≤World.heap.size _;omega) | exact Nat.le_trans z0 hz5),HW.out.trans (HK.out.mono z0)⟩
set_option maxHeartbeats 4000000 in
theorem spE8 (r a x n fr:Int) (ss sk:Option Addr) (sl sc kl kc:Nat) (lo hi:Nat) (caps:List Int) (b rm:Int) (w:World) (hok:Plain.insB 8 r a x n sl kl=true) (hkl:caps.length=kl) (hcp:IntsR w lo hi sk caps) (hhi:hi≤w.heap.size) (hcl:caps.length≤2000000) (hbs:baseV caps n=b) (hb0:0≤b) (hb1:b≤20) (hn0:0≤n) (hn1:n < (kl:Int)) (hrm:caps.getD n.toNat 0=rm):Calls Tryz.prog 56 #[.slice sk kl kc,.agg #[.int .i64 8,.int .i64 r,.int .i64 a,.int .i64 x,.int .i64 n],.int .i64 fr,.slice ss sl sc] w fun e w'=>∃ g c,e=.returned (.slice (some ⟨g,0,none⟩) 32 c)∧OwnT5 w' w.heap.size (.slice (some ⟨g,0,none⟩) 32 c) (takeS8 r x b rm fr)∧Below w.heap.size w w':=by
 have HOK:=hid_of hok
 clear hok
 obtain ⟨W,hW,hx,hb,hz⟩:=XB.new w 8 r a x n 71
 have HX:=hid_of hx
 have HW:Hid (Below w.heap.size w W):=hb
 have HK:Hid (Below W.heap.size W W):=Below.refl _ _
 clear hx hb
 obtain ⟨q0,q1,q2,q3,q4,tl⟩:=HX.out
 have HB0:=hid_of hb0
 have HB1:=hid_of hb1
 obtain ⟨gi,oi,es,hg1,hg2,hgc⟩:=hcp.pos (by omega)
 obtain ⟨m,rfl⟩:∃ m:Nat,n=(m:Int):=⟨n.toNat,by omega⟩
 rw [Int.toNat_natCast] at hrm
 have hgi:gi < w.heap.size:=by omega
 have i1:=hgc m (by omega)
 rw [hrm] at i1
 have i0:=(HW.out.cell (p:=⟨gi,oi+m,none⟩) hgi).trans i1
 have HI0:=hid_of i0
 have hgW:gi < W.heap.size:=by have:=HW.out.size;omega
 have HCP:=hid_of (hcp.keep (Keep.of_below HW.out hhi))
 have hhW:hi≤W.heap.size:=by have:=HW.out.size;omega
 subst es
 clear hgc i1 hcp hrm hb1
 have e0:(0:Int)≤(m:Int):=by omega
 go_enter Tryz.func56,Tryz.ntmps56
 go_upto_region 30 with (first | (go_at_call 47;refine (specInsOk_any _ _ _ _ _ _ _ _).mono ?_;rintro e w1 ⟨rfl,hb1⟩;rw [HOK.out];have JK:=hid_of (Below.via (B:=W.heap.size) (w:=W) hb1 (Nat.le_refl _) (by repeat (first | with_reducible exact HK.out | with_reducible refine Below.drew ?_ | with_reducible refine Below.alloc ?_ (by have:=HK.out.size;first | omega | (simp;omega)) _)));clear HK;have HK:=JK;clear JK hb1;clear q0 q1 q2 q3 q4 tl;obtain ⟨q0,q1,q2,q3,q4,tl⟩:=HX.out.keep HK.out;clear i0;have i0:=(HK.out.cell (p:=⟨gi,oi+m,none⟩) hgW).trans HI0.out) | (go_at_call 80;rw [← hkl];refine (specBase_any _ kc lo hi caps _ _ (HCP.out.keep (Keep.of_below HK.out hhW)) (by have:=HK.out.size;omega) hcl).mono ?_;rintro e w1 ⟨rfl,hb1⟩;rw [hbs];have JK:=hid_of (Below.via (B:=W.heap.size) (w:=W) hb1 (Nat.le_refl _) (by repeat (first | with_reducible exact HK.out | with_reducible refine Below.drew ?_ | with_reducible refine Below.alloc ?_ (by have:=HK.out.size;first | omega | (simp;omega)) _)));clear HK;have HK:=JK;clear JK hb1;clear q0 q1 q2 q3 q4 tl;obtain ⟨q0,q1,q2,q3,q4,tl⟩:=HX.out.keep HK.out;clear i0;have i0:=(HK.out.cell (p:=⟨gi,oi+m,none⟩) hgW).trans HI0.out))
 go_region_held3 (fun w'=>w'.cell? ⟨w.heap.size,0,none⟩=some (.int .i64 8)∧w'.cell? ⟨w.heap.size,1,none⟩=some (.int .i64 r)∧w'.cell? ⟨w.heap.size,2,none⟩=some (.int .i64 a)∧w'.cell? ⟨w.heap.size,3,none⟩=some (.int .i64 x)∧w'.cell? ⟨w.heap.size,4,none⟩=some (.int .i64 (m:Int))∧w'.cell? ⟨gi,oi+m,none⟩=some (.int .i64 rm)) (exact ⟨(HX.out.keep (by repeat (first | with_reducible exact HK.out | with_reducible refine Below.drew ?_ | with_reducible refine Below.alloc ?_ (by have:=HK.out.size;first | omega | (simp;omega)) _))).c0,(HX.out.keep (by repeat (first | with_reducible exact HK.out | with_reducible refine Below.drew ?_ | with_reducible refine Below.alloc ?_ (by have:=HK.out.size;first | omega | (simp;omega)) _))).c1,(HX.out.keep (by repeat (first | with_reducible exact HK.out | with_reducible refine Below.drew ?_ | with_reducible refine Below.alloc ?_ (by have:=HK.out.size;first | omega | (simp;omega)) _))).c2,(HX.out.keep (by repeat (first | with_reducible exact HK.out | with_reducible refine Below.drew ?_ | with_reducible refine Below.alloc ?_ (by have:=HK.out.size;first | omega | (simp;omega)) _))).c3,(HX.out.keep (by repeat (first | with_reducible exact HK.out | with_reducible refine Below.drew ?_ | with_reducible refine Below.alloc ?_ (by have:=HK.out.size;first | omega | (simp;omega)) _))).c4,((show Below W.heap.size W _ from (by repeat (first | with_reducible exact HK.out | with_reducible refine Below.drew ?_ | with_reducible refine Below.alloc ?_ (by have:=HK.out.size;first | omega | (simp;omega)) _))).cell (p:=⟨gi,oi+m,none⟩) hgW).trans HI0.out⟩) (first | (go_at_call 82;refine (sTake8 r a x _ b rm fr _ HB0.out HB1.out).mono ?_;rintro e w1 ⟨g5,c5,rfl,ho5,hb1⟩;have HO5:=hid_of ho5;clear ho5;have hz5:=HK.out.size;have JK:=hid_of (Below.via (B:=W.heap.size) (w:=W) hb1 (Nat.le_refl _) (by repeat (first | with_reducible exact HK.out | with_reducible refine Below.drew ?_ | with_reducible refine Below.alloc ?_ (by have:=HK.out.size;first | omega | (simp;omega)) _)));clear HK;have HK:=JK;clear JK hb1;clear q0 q1 q2 q3 q4 tl;obtain ⟨q0,q1,q2,q3,q4,tl⟩:=HX.out.keep HK.out;clear i0;have i0:=(HK.out.cell (p:=⟨gi,oi+m,none⟩) hgW).trans HI0.out))
 go_wp2
 go_ret
 have z0:=HW.out.size
 exact ⟨_,_,rfl,HO5.out.low (by first | omega | (show w.heap.size≤World.heap.size _;omega) | exact Nat.le_trans z0 hz5),HW.out.trans (HK.out.mono z0)⟩
set_option maxHeartbeats 4000000 in
theorem spE9 (r a x n fr:Int) (ss sk:Option Addr) (sl sc kl kc:Nat) (lo hi:Nat) (caps:List Int) (b rm:Int) (w:World) (hok:Plain.insB 9 r a x n sl kl=true) (hkl:caps.length=kl) (hcp:IntsR w lo hi sk caps) (hhi:hi≤w.heap.size) (hcl:caps.length≤2000000) (hbs:baseV caps n=b) (hb0:0≤b) (hb1:b≤20) (hn0:0≤n) (hn1:n < (kl:Int)) (hrm:caps.getD n.toNat 0=rm):Calls Tryz.prog 56 #[.slice sk kl kc,.agg #[.int .i64 9,.int .i64 r,.int .i64 a,.int .i64 x,.int .i64 n],.int .i64 fr,.slice ss sl sc] w fun e w'=>∃ g c,e=.returned (.slice (some ⟨g,0,none⟩) 13 c)∧OwnT5 w' w.heap.size (.slice (some ⟨g,0,none⟩) 13 c) (closeS b fr)∧Below w.heap.size w w':=by
 have HOK:=hid_of hok
 clear hok
 obtain ⟨W,hW,hx,hb,hz⟩:=XB.new w 9 r a x n 71
 have HX:=hid_of hx
 have HW:Hid (Below w.heap.size w W):=hb
 have HK:Hid (Below W.heap.size W W):=Below.refl _ _
 clear hx hb
 obtain ⟨q0,q1,q2,q3,q4,tl⟩:=HX.out
 have HB0:=hid_of hb0
 have HB1:=hid_of hb1
 obtain ⟨gi,oi,es,hg1,hg2,hgc⟩:=hcp.pos (by omega)
 obtain ⟨m,rfl⟩:∃ m:Nat,n=(m:Int):=⟨n.toNat,by omega⟩
 rw [Int.toNat_natCast] at hrm
 have hgi:gi < w.heap.size:=by omega
 have i1:=hgc m (by omega)
 rw [hrm] at i1
 have i0:=(HW.out.cell (p:=⟨gi,oi+m,none⟩) hgi).trans i1
 have HI0:=hid_of i0
 have hgW:gi < W.heap.size:=by have:=HW.out.size;omega
 have HCP:=hid_of (hcp.keep (Keep.of_below HW.out hhi))
 have hhW:hi≤W.heap.size:=by have:=HW.out.size;omega
 subst es
 clear hgc i1 hcp hrm hb1
 have e0:(0:Int)≤(m:Int):=by omega
 go_enter Tryz.func56,Tryz.ntmps56
 go_wp2_with (first | (go_at_call 47;refine (specInsOk_any _ _ _ _ _ _ _ _).mono ?_;rintro e w1 ⟨rfl,hb1⟩;rw [HOK.out];have JK:=hid_of (Below.via (B:=W.heap.size) (w:=W) hb1 (Nat.le_refl _) (by repeat (first | with_reducible exact HK.out | with_reducible refine Below.drew ?_ | with_reducible refine Below.alloc ?_ (by have:=HK.out.size;first | omega | (simp;omega)) _)));clear HK;have HK:=JK;clear JK hb1;clear q0 q1 q2 q3 q4 tl;obtain ⟨q0,q1,q2,q3,q4,tl⟩:=HX.out.keep HK.out;clear i0;have i0:=(HK.out.cell (p:=⟨gi,oi+m,none⟩) hgW).trans HI0.out) | (go_at_call 80;rw [← hkl];refine (specBase_any _ kc lo hi caps _ _ (HCP.out.keep (Keep.of_below HK.out hhW)) (by have:=HK.out.size;omega) hcl).mono ?_;rintro e w1 ⟨rfl,hb1⟩;rw [hbs];have JK:=hid_of (Below.via (B:=W.heap.size) (w:=W) hb1 (Nat.le_refl _) (by repeat (first | with_reducible exact HK.out | with_reducible refine Below.drew ?_ | with_reducible refine Below.alloc ?_ (by have:=HK.out.size;first | omega | (simp;omega)) _)));clear HK;have HK:=JK;clear JK hb1;clear q0 q1 q2 q3 q4 tl;obtain ⟨q0,q1,q2,q3,q4,tl⟩:=HX.out.keep HK.out;clear i0;have i0:=(HK.out.cell (p:=⟨gi,oi+m,none⟩) hgW).trans HI0.out) | (go_at_call 83;refine (sClose b fr _ HB0.out HB1.out).mono ?_;rintro e w1 ⟨g5,c5,rfl,ho5,hb1⟩;have HO5:=hid_of ho5;clear ho5;have hz5:=HK.out.size;have JK:=hid_of (Below.via (B:=W.heap.size) (w:=W) hb1 (Nat.le_refl _) (by repeat (first | with_reducible exact HK.out | with_reducible refine Below.drew ?_ | with_reducible refine Below.alloc ?_ (by have:=HK.out.size;first | omega | (simp;omega)) _)));clear HK;have HK:=JK;clear JK hb1;clear q0 q1 q2 q3 q4 tl;obtain ⟨q0,q1,q2,q3,q4,tl⟩:=HX.out.keep HK.out;clear i0;have i0:=(HK.out.cell (p:=⟨gi,oi+m,none⟩) hgW).trans HI0.out))
 go_ret
 have z0:=HW.out.size
 exact ⟨_,_,rfl,HO5.out.low (by first | omega | (show w.heap.size≤World.heap.size _;omega) | exact Nat.le_trans z0 hz5),HW.out.trans (HK.out.mono z0)⟩
end
section
set_option linter.unusedSimpArgs false
set_option linter.unusedVariables false
set_option maxRecDepth 100000
open Go.RowKit
theorem ad_w (f k:Int):wrap64 (ad f k)=ad f k:=by unfold ad wrap64;omega
theorem eq5 (r a b rm fr:Int):togL fr [lockR b,askR b 3,faultR b,openR b rm,roundR,putR b a++(letR b++[⟨10,0,0,0,-1⟩]),letR b++[⟨10,0,0,0,0⟩]] [lockR b,askR b 3,faultR b,openR b rm,roundR,putR b a++(letR b++[⟨10,0,0,0,-1⟩]),letR b++[⟨10,0,0,0,0⟩]]=sendS5 r a b rm fr:=by
 simp [togL,fixJ,isJ,toN,firstV,lockR,askR,faultR,openR,roundR,putR,letR,triedR,takenR,roundT,keepT,keepR,noneT,noneR,cameR,lockS,shutS,ad_ad,ad_w,sendS5]
theorem eq6 (r x b rm fr:Int):togL fr [lockR b,takenR b r rm,roundT,keepT b x,noneT b r x 0,[⟨10,0,0,0,0⟩]] [lockR b,takenR b r rm,roundT,keepT b x,noneT b r x 0,[⟨10,0,0,0,0⟩]]=takeS6 r x b rm fr:=by
 simp [togL,fixJ,isJ,toN,firstV,lockR,askR,faultR,openR,roundR,putR,letR,triedR,takenR,roundT,keepT,keepR,noneT,noneR,cameR,lockS,shutS,ad_ad,ad_w,takeS6]
theorem eq7 (r a b rm fr:Int):togL fr [lockR b,askR b 3,faultR b,openR b rm,roundR,putR b a++(letR b++triedR r 1),letR b++triedR r 0] [lockR b,askR b 3,faultR b,openR b rm,roundR,putR b a++(letR b++triedR r 1),letR b++triedR r 0]=sendS7 r a b rm fr:=by
 simp [togL,fixJ,isJ,toN,firstV,lockR,askR,faultR,openR,roundR,putR,letR,triedR,takenR,roundT,keepT,keepR,noneT,noneR,cameR,lockS,shutS,ad_ad,ad_w,sendS7]
theorem eq8 (r x b rm fr:Int):togL fr [lockR b,takenR b r rm,roundT,keepT b x,noneT b r x 2,cameR r x 0 0] [lockR b,takenR b r rm,roundT,keepT b x,noneT b r x 2,cameR r x 0 0]=takeS8 r x b rm fr:=by
 simp [togL,fixJ,isJ,toN,firstV,lockR,askR,faultR,openR,roundR,putR,letR,triedR,takenR,roundT,keepT,keepR,noneT,noneR,cameR,lockS,shutS,ad_ad,ad_w,takeS8]
theorem eq9 (b fr:Int):togL fr [lockR b,askR b 3,faultR b,[⟨1,7,0,0,1⟩,⟨6,0,-1,7,b+3⟩]++letR b] [lockR b,askR b 3,faultR b,[⟨1,7,0,0,1⟩,⟨6,0,-1,7,b+3⟩]++letR b]=closeS b fr:=by
 simp [togL,fixJ,isJ,toN,firstV,lockR,askR,faultR,openR,roundR,putR,letR,triedR,takenR,roundT,keepT,keepR,noneT,noneR,cameR,lockS,shutS,ad_ad,ad_w,closeS]
end
end Go.Proofs.YtkhjhibigldcgaaGreat
