/- Rows of steps and of notes written over with running numbers, and looked at again. Conditions: at most ten million integers. Rows of code written over with running numbers, and looked at again. Conditions: at most ten million integers. Rows of cores written over with running numbers, and looked at again. Conditions: at most ten million integers. The shape of machines that are written over. Conditions: they are counted. Machines written over with running numbers, and looked at again. Conditions: they are counted. -/
import Derived.Test.YtlbeploopclegaaGreatPG00
import Derived.Test.YtlbeploopclegaaGreatPG01
import Derived.Test.YtlbeploopclegaaGreatPG03
import Derived.Test.YtlbeploopclegaaGreatPG04
import Derived.Test.YtlbeploopclegaaGreatPG05
namespace Go.Proofs.YtlbeploopclegaaGreat
set_option linter.unusedSimpArgs false
set_option linter.unusedVariables false
set_option maxRecDepth 100000
section
open Go.RowKit
set_option maxHeartbeats 1000000 in
theorem markSt_any (x : VS) (lo hi : Nat) (q : Int) (w : World) (hok : x.n * 5 = 0 ∨ Somewhere x.s) (hint : ∀ a ∈ vAs (x.wide 5), IntC w lo hi a) (hn : x.n * 5 ≤ 10000000) (hq : 0 ≤ q) (hq' : q ≤ 1000000000000000) :
  Calls Tryz.prog 74 #[.slice x.s x.n x.c,.int .i64 q] w fun e w'=>e=.returned (.int .i64 (q+(x.n * 5:Nat)))∧Wrote (vAs (x.wide 5)) q w w':=by
 obtain ⟨s,n,c⟩:=x
 have HI:Hid (∀ a∈vAs ⟨s,n * 5,c⟩,IntC w lo hi a):=hint
 clear hint
 simp only at hok hn
 show Calls _ _ _ _ fun e w'=>e=.returned (.int .i64 (q+(n * 5:Nat)))∧Wrote (vAs ⟨s,n * 5,c⟩) q w w'
 go_enter Tryz.func74,Tryz.ntmps74
 go_wp2
 go_loopw [1,5] (fun a i wr=>∃ (k:Nat) (z:Int),k≤n∧i=.int .i64 k∧a=.int .i64 z∧0≤z∧z≤2000000000000000∧Hid (z=q+(k * 5:Nat))∧Wrote (vAs ⟨s,k * 5,c⟩) q w wr) (fun _ i _=>n - (intOf i).toNat)
 case atStart=>exact ⟨0,q,Nat.zero_le _,rfl,rfl,hq,by omega,show _=_ by simp,by simpa [vAs] using Wrote.refl q w⟩
 case round=>
  obtain ⟨k,z,hk,rfl,rfl,hz0,hz1,HZ,hw⟩:=hrel
  have HW:Hid (Wrote (vAs ⟨s,k * 5,c⟩) q w wr):=hw
  clear hw
  by_cases hlt:k < n
  ·obtain ⟨g,o,rfl⟩:Somewhere s:=by rcases hok with h | h<;>first | omega | exact h
   have hm:∀ j,j < 5→∃ z,wr.cell? ⟨g,o+k * 5+j,none⟩=some (.int .i64 z)∧wr.frozen? ⟨g,o+k * 5+j,none⟩=false:=fun j hj=>by
    obtain ⟨⟨z,hz⟩,hf,-,-⟩:=HW.out.intc (HI.out ⟨g,o+k * 5+j,none⟩ (mem_vAs.2 ⟨k * 5+j,by show _ < n * 5;omega,by simp [adr]<;>omega⟩))
    exact ⟨z,hz,hf⟩
   obtain ⟨y0,c0,f0⟩:=hm 0 (by omega)
   obtain ⟨y1,c1,f1⟩:=hm 1 (by omega)
   obtain ⟨y2,c2,f2⟩:=hm 2 (by omega)
   obtain ⟨y3,c3,f3⟩:=hm 3 (by omega)
   obtain ⟨y4,c4,f4⟩:=hm 4 (by omega)
   rw [Nat.add_zero] at c0 f0
   have b0:(0:Int)≤(k:Int):=by omega
   have b1:(k:Int) < (n:Int):=by omega
   clear hm
   go_wp2
   go_roundw
   case rel=>
    refine ⟨k+1,_,by omega,by go_num,rfl,by omega,by have:=HZ.out;omega,by show _=_;have:=HZ.out;push_cast;omega,?_⟩
    have e:vAs ⟨some ⟨g,o,none⟩,(k+1) * 5,c⟩=((((vAs ⟨some ⟨g,o,none⟩,k * 5,c⟩++[⟨g,o+k * 5,none⟩])++[⟨g,o+k * 5+1,none⟩])++[⟨g,o+k * 5+2,none⟩])++[⟨g,o+k * 5+3,none⟩])++[⟨g,o+k * 5+4,none⟩]:=by
     have e1:(k+1) * 5=k * 5+5:=by omega
     rw [e1]
     simp [vAs,List.range_add,List.range_succ,adr,Nat.add_assoc]
    rw [e]
    have nm:∀ j,(⟨g,o+k * 5+j,none⟩:Addr)∉vAs ⟨some ⟨g,o,none⟩,k * 5,c⟩:=fun j hm=>by
     obtain ⟨i,hi',ei⟩:=mem_vAs.1 hm
     simp [adr] at ei
     simp at hi'
     omega
    have hz:=HZ.out
    have W0:=HW.out.push (a:=⟨g,o+k * 5,none⟩) (z:=z) (fun hm=>by
     have q:=nm 0;first | exact q hm | (simp at hm;first | exact q hm | exact q (by simpa using hm) | omega)) (by rw [c0];rfl) (by simp [vAs_len];omega)
    have W1:=W0.push (a:=⟨g,o+k * 5+1,none⟩) (z:=z+1) (fun hm=>by
     have q:=nm 1;first | exact q hm | (simp at hm;first | exact q hm | exact q (by simpa using hm) | omega)) (by refine setC_some ?_;rw [c1];rfl) (by simp [vAs_len];omega)
    have W2:=W1.push (a:=⟨g,o+k * 5+2,none⟩) (z:=z+1+1) (fun hm=>by
     have q:=nm 2;first | exact q hm | (simp at hm;first | exact q hm | exact q (by simpa using hm) | omega)) (by refine setC_some ?_;refine setC_some ?_;rw [c2];rfl) (by simp [vAs_len];omega)
    have W3:=W2.push (a:=⟨g,o+k * 5+3,none⟩) (z:=z+1+1+1) (fun hm=>by
     have q:=nm 3;first | exact q hm | (simp at hm;first | exact q hm | exact q (by simpa using hm) | omega)) (by refine setC_some ?_;refine setC_some ?_;refine setC_some ?_;rw [c3];rfl) (by simp [vAs_len];omega)
    have W4:=W3.push (a:=⟨g,o+k * 5+4,none⟩) (z:=z+1+1+1+1) (fun hm=>by
     have q:=nm 4;first | exact q hm | (simp at hm;first | exact q hm | exact q (by simpa using hm) | omega)) (by refine setC_some ?_;refine setC_some ?_;refine setC_some ?_;refine setC_some ?_;rw [c4];rfl) (by simp [vAs_len];omega)
    exact W4
   case measure=>simp [intOf];omega
  ·go_wp2
   go_ret
   have e:k=n:=by omega
   subst e
   exact ⟨by rw [HZ.out];rfl,HW.out⟩
set_option maxHeartbeats 1000000 in
theorem heldSt_any (x : VS) (q : Int) (w : World) (hok : x.n * 5 = 0 ∨ Somewhere x.s) (hm : MarkedA w (vAs (x.wide 5)) q) (hn : x.n * 5 ≤ 10000000) (hq : 0 ≤ q) (hq' : q ≤ 1000000000000000) :
  Calls Tryz.prog 77 #[.slice x.s x.n x.c,.int .i64 q] w fun e w'=>e=.returned (.int .i64 (q+(x.n * 5:Nat)))∧w'=w:=by
 obtain ⟨s,n,c⟩:=x
 have HI:Hid (MarkedA w (vAs ⟨s,n * 5,c⟩) q):=hm
 clear hm
 simp only at hok hn
 show Calls _ _ _ _ fun e w'=>e=.returned (.int .i64 (q+(n * 5:Nat)))∧w'=w
 go_enter Tryz.func77,Tryz.ntmps77
 go_wp2
 go_loop [1,5] (fun a i=>∃ (k:Nat) (z:Int),k≤n∧i=.int .i64 k∧a=.int .i64 z∧0≤z∧z≤2000000000000000∧Hid (z=q+(k * 5:Nat))) (fun _ i=>n - (intOf i).toNat)
 case atStart=>exact ⟨0,q,Nat.zero_le _,rfl,rfl,hq,by omega,show _=_ by simp⟩
 case round=>
  obtain ⟨k,z,hk,rfl,rfl,hz0,hz1,HZ⟩:=hrel
  by_cases hlt:k < n
  ·obtain ⟨g,o,rfl⟩:Somewhere s:=by rcases hok with h | h<;>first | omega | exact h
   have hm:∀ j,j < 5→w.cell? ⟨g,o+k * 5+j,none⟩=some (.int .i64 (z+j)):=fun j hj=>by
    have:=HI.out (k * 5+j) ⟨g,o+k * 5+j,none⟩ (by rw [vAs_at (by show _ < n * 5;omega)];simp [adr]<;>omega)
    rw [this,HZ.out]
    congr 2
    first | omega | (push_cast;omega)
   have c0:w.cell? ⟨g,o+k * 5,none⟩=some (.int .i64 z):=by have:=hm 0 (by omega);simpa using this
   have c1:w.cell? ⟨g,o+k * 5+1,none⟩=some (.int .i64 (z+1)):=by have:=hm 1 (by omega);first | (rw [this];done) | (rw [this];congr 2<;>omega)
   have c2:w.cell? ⟨g,o+k * 5+2,none⟩=some (.int .i64 (z+1+1)):=by have:=hm 2 (by omega);first | (rw [this];done) | (rw [this];congr 2<;>omega)
   have c3:w.cell? ⟨g,o+k * 5+3,none⟩=some (.int .i64 (z+1+1+1)):=by have:=hm 3 (by omega);first | (rw [this];done) | (rw [this];congr 2<;>omega)
   have c4:w.cell? ⟨g,o+k * 5+4,none⟩=some (.int .i64 (z+1+1+1+1)):=by have:=hm 4 (by omega);first | (rw [this];done) | (rw [this];congr 2<;>omega)
   have n0:((z) !=(z))=false:=by simp
   have n1:((z+1) !=(z+1))=false:=by simp
   have n2:((z+1+1) !=(z+1+1))=false:=by simp
   have n3:((z+1+1+1) !=(z+1+1+1))=false:=by simp
   have n4:((z+1+1+1+1) !=(z+1+1+1+1))=false:=by simp
   have b0:(0:Int)≤(k:Int):=by omega
   have b1:(k:Int) < (n:Int):=by omega
   clear hm
   go_wp2
   go_round
   case rel=>exact ⟨k+1,_,by omega,by go_num,rfl,by omega,by have:=HZ.out;omega,by show _=_;have:=HZ.out;push_cast;omega⟩
   case measure=>simp [intOf];omega
  ·go_wp2
   go_ret
   have e:k=n:=by omega
   subst e
   exact ⟨by rw [HZ.out];rfl,rfl⟩
set_option maxHeartbeats 1000000 in
theorem markNt_any (x : VS) (lo hi : Nat) (q : Int) (w : World) (hok : x.n * 2 = 0 ∨ Somewhere x.s) (hint : ∀ a ∈ vAs (x.wide 2), IntC w lo hi a) (hn : x.n * 2 ≤ 10000000) (hq : 0 ≤ q) (hq' : q ≤ 1000000000000000) :
  Calls Tryz.prog 40 #[.slice x.s x.n x.c,.int .i64 q] w fun e w'=>e=.returned (.int .i64 (q+(x.n * 2:Nat)))∧Wrote (vAs (x.wide 2)) q w w':=by
 obtain ⟨s,n,c⟩:=x
 have HI:Hid (∀ a∈vAs ⟨s,n * 2,c⟩,IntC w lo hi a):=hint
 clear hint
 simp only at hok hn
 show Calls _ _ _ _ fun e w'=>e=.returned (.int .i64 (q+(n * 2:Nat)))∧Wrote (vAs ⟨s,n * 2,c⟩) q w w'
 go_enter Tryz.func40,Tryz.ntmps40
 go_wp2
 go_loopw [1,5] (fun a i wr=>∃ (k:Nat) (z:Int),k≤n∧i=.int .i64 k∧a=.int .i64 z∧0≤z∧z≤2000000000000000∧Hid (z=q+(k * 2:Nat))∧Wrote (vAs ⟨s,k * 2,c⟩) q w wr) (fun _ i _=>n - (intOf i).toNat)
 case atStart=>exact ⟨0,q,Nat.zero_le _,rfl,rfl,hq,by omega,show _=_ by simp,by simpa [vAs] using Wrote.refl q w⟩
 case round=>
  obtain ⟨k,z,hk,rfl,rfl,hz0,hz1,HZ,hw⟩:=hrel
  have HW:Hid (Wrote (vAs ⟨s,k * 2,c⟩) q w wr):=hw
  clear hw
  by_cases hlt:k < n
  ·obtain ⟨g,o,rfl⟩:Somewhere s:=by rcases hok with h | h<;>first | omega | exact h
   have hm:∀ j,j < 2→∃ z,wr.cell? ⟨g,o+k * 2+j,none⟩=some (.int .i64 z)∧wr.frozen? ⟨g,o+k * 2+j,none⟩=false:=fun j hj=>by
    obtain ⟨⟨z,hz⟩,hf,-,-⟩:=HW.out.intc (HI.out ⟨g,o+k * 2+j,none⟩ (mem_vAs.2 ⟨k * 2+j,by show _ < n * 2;omega,by simp [adr]<;>omega⟩))
    exact ⟨z,hz,hf⟩
   obtain ⟨y0,c0,f0⟩:=hm 0 (by omega)
   obtain ⟨y1,c1,f1⟩:=hm 1 (by omega)
   rw [Nat.add_zero] at c0 f0
   have b0:(0:Int)≤(k:Int):=by omega
   have b1:(k:Int) < (n:Int):=by omega
   clear hm
   go_wp2
   go_roundw
   case rel=>
    refine ⟨k+1,_,by omega,by go_num,rfl,by omega,by have:=HZ.out;omega,by show _=_;have:=HZ.out;push_cast;omega,?_⟩
    have e:vAs ⟨some ⟨g,o,none⟩,(k+1) * 2,c⟩=(vAs ⟨some ⟨g,o,none⟩,k * 2,c⟩++[⟨g,o+k * 2,none⟩])++[⟨g,o+k * 2+1,none⟩]:=by
     have e1:(k+1) * 2=k * 2+2:=by omega
     rw [e1]
     simp [vAs,List.range_add,List.range_succ,adr,Nat.add_assoc]
    rw [e]
    have nm:∀ j,(⟨g,o+k * 2+j,none⟩:Addr)∉vAs ⟨some ⟨g,o,none⟩,k * 2,c⟩:=fun j hm=>by
     obtain ⟨i,hi',ei⟩:=mem_vAs.1 hm
     simp [adr] at ei
     simp at hi'
     omega
    have hz:=HZ.out
    have W0:=HW.out.push (a:=⟨g,o+k * 2,none⟩) (z:=z) (fun hm=>by
     have q:=nm 0;first | exact q hm | (simp at hm;first | exact q hm | exact q (by simpa using hm) | omega)) (by rw [c0];rfl) (by simp [vAs_len];omega)
    have W1:=W0.push (a:=⟨g,o+k * 2+1,none⟩) (z:=z+1) (fun hm=>by
     have q:=nm 1;first | exact q hm | (simp at hm;first | exact q hm | exact q (by simpa using hm) | omega)) (by refine setC_some ?_;rw [c1];rfl) (by simp [vAs_len];omega)
    exact W1
   case measure=>simp [intOf];omega
  ·go_wp2
   go_ret
   have e:k=n:=by omega
   subst e
   exact ⟨by rw [HZ.out];rfl,HW.out⟩
set_option maxHeartbeats 1000000 in
theorem heldNt_any (x : VS) (q : Int) (w : World) (hok : x.n * 2 = 0 ∨ Somewhere x.s) (hm : MarkedA w (vAs (x.wide 2)) q) (hn : x.n * 2 ≤ 10000000) (hq : 0 ≤ q) (hq' : q ≤ 1000000000000000) :
  Calls Tryz.prog 44 #[.slice x.s x.n x.c,.int .i64 q] w fun e w'=>e=.returned (.int .i64 (q+(x.n * 2:Nat)))∧w'=w:=by
 obtain ⟨s,n,c⟩:=x
 have HI:Hid (MarkedA w (vAs ⟨s,n * 2,c⟩) q):=hm
 clear hm
 simp only at hok hn
 show Calls _ _ _ _ fun e w'=>e=.returned (.int .i64 (q+(n * 2:Nat)))∧w'=w
 go_enter Tryz.func44,Tryz.ntmps44
 go_wp2
 go_loop [1,5] (fun a i=>∃ (k:Nat) (z:Int),k≤n∧i=.int .i64 k∧a=.int .i64 z∧0≤z∧z≤2000000000000000∧Hid (z=q+(k * 2:Nat))) (fun _ i=>n - (intOf i).toNat)
 case atStart=>exact ⟨0,q,Nat.zero_le _,rfl,rfl,hq,by omega,show _=_ by simp⟩
 case round=>
  obtain ⟨k,z,hk,rfl,rfl,hz0,hz1,HZ⟩:=hrel
  by_cases hlt:k < n
  ·obtain ⟨g,o,rfl⟩:Somewhere s:=by rcases hok with h | h<;>first | omega | exact h
   have hm:∀ j,j < 2→w.cell? ⟨g,o+k * 2+j,none⟩=some (.int .i64 (z+j)):=fun j hj=>by
    have:=HI.out (k * 2+j) ⟨g,o+k * 2+j,none⟩ (by rw [vAs_at (by show _ < n * 2;omega)];simp [adr]<;>omega)
    rw [this,HZ.out]
    congr 2
    first | omega | (push_cast;omega)
   have c0:w.cell? ⟨g,o+k * 2,none⟩=some (.int .i64 z):=by have:=hm 0 (by omega);simpa using this
   have c1:w.cell? ⟨g,o+k * 2+1,none⟩=some (.int .i64 (z+1)):=by have:=hm 1 (by omega);first | (rw [this];done) | (rw [this];congr 2<;>omega)
   have n0:((z) !=(z))=false:=by simp
   have n1:((z+1) !=(z+1))=false:=by simp
   have b0:(0:Int)≤(k:Int):=by omega
   have b1:(k:Int) < (n:Int):=by omega
   clear hm
   go_wp2
   go_round
   case rel=>exact ⟨k+1,_,by omega,by go_num,rfl,by omega,by have:=HZ.out;omega,by show _=_;have:=HZ.out;push_cast;omega⟩
   case measure=>simp [intOf];omega
  ·go_wp2
   go_ret
   have e:k=n:=by omega
   subst e
   exact ⟨by rw [HZ.out];rfl,rfl⟩
end
section
open Go.RowKit
theorem recC_as (s:Option Addr) (x:VS) (j:Nat):recAs s [.r x 5] (j * TC.length)=vAs (x.wide 5):=by simp [recAs,fAs]
theorem gsh_int {w:World} {lo hi:Nat} {s:Option Addr} {T:List (Option Nat)} {R:List (List FS)} {j:Nat} {x:List FS} (h:GSh w lo hi s T R) (hx:R[j]? =some x):(∀ a∈gAs s T.length (R.take j) 0,∃ z,w.cell? a=some (.int .i64 z))∧(∀ a∈recAs s x (j * T.length),IntC w lo hi a)∧(∀ a∈gAs s T.length (R.take j) 0,a∉recAs s x (j * T.length))∧(recAs s x (j * T.length)).Nodup:=by
 have sp:=gAs_split (s:=s) (wd:=T.length) hx
 have nod:=h.d
 rw [sp] at nod
 refine ⟨fun a ha=>(h.int a (by rw [sp];simp [ha])).1,fun a ha=>h.int a (by rw [sp];simp [ha]),fun a ha hm=>(List.nodup_append.1 nod).2.2 _ ha _ (by simp [hm]) rfl,(List.nodup_append.1 (List.nodup_append.1 nod).2.1).1⟩
theorem marked_at {w:World} {s:Option Addr} {wd:Nat} {R:List (List FS)} {j:Nat} {x:List FS} {q:Int} (hm:MarkedA w (gAs s wd R 0) q) (hx:R[j]? =some x):MarkedA w (recAs s x (j * wd)) (q+(gAs s wd (R.take j) 0).length):=fun p a ha=>by
 have hp:=(List.getElem?_eq_some_iff.1 ha).1
 have:=hm ((gAs s wd (R.take j) 0).length+p) a (by
  rw [gAs_split hx,List.getElem?_append_right (by omega)]
  have e:(gAs s wd (R.take j) 0).length+p - (gAs s wd (R.take j) 0).length=p:=by omega
  rw [e,List.getElem?_append_left hp]
  exact ha)
 rw [this]
 congr 2
 omega
set_option maxHeartbeats 1000000 in
theorem markCs_any (so : Option Addr) (R : List (List FS)) (c lo hi : Nat) (q : Int) (w : World) (h : GSh w lo hi so TC R) (hs : R.length ≤ 2000000) (hn : (gAs so TC.length R 0).length ≤ 10000000) (hq : 0 ≤ q) (hq' : q ≤ 10000000000000) :
  Calls Tryz.prog 37 #[.slice so R.length c,.int .i64 q] w fun e w'=>e=.returned (.int .i64 (q+(gAs so TC.length R 0).length))∧Wrote (gAs so TC.length R 0) q w w':=by
 have H:Hid (GSh w lo hi so TC R):=h
 have HN:Hid ((gAs so TC.length R 0).length≤10000000):=hn
 clear h hn
 go_enter Tryz.func37,Tryz.ntmps37
 go_wp2
 go_loopw [1,5] (fun a i wr=>∃ (j:Nat) (z:Int),j≤R.length∧i=.int .i64 j∧a=.int .i64 z∧0≤z∧z≤20000000000000∧Hid (z=q+(gAs so TC.length (R.take j) 0).length)∧Wrote (gAs so TC.length (R.take j) 0) q w wr) (fun _ i _=>R.length - (intOf i).toNat)
 case atStart=>exact ⟨0,q,Nat.zero_le _,rfl,rfl,hq,by omega,show _=_ by simp [gAs],by simpa [gAs] using Wrote.refl q w⟩
 case round=>
  obtain ⟨j,z,hj,rfl,rfl,hz0,hz1,HZ,hw⟩:=hrel
  have HW:Hid (Wrote (gAs so TC.length (R.take j) 0) q w wr):=hw
  clear hw
  by_cases hlt:j < R.length
  ·obtain ⟨r,hx⟩:∃ x,R[j]? =some x:=⟨_,List.getElem?_eq_getElem hlt⟩
   obtain ⟨x,rfl⟩:=kindC (H.out.t j r hx)
   obtain ⟨g,o,rfl⟩:Somewhere so:=by rcases H.out.rok with h | h<;>first | (rw [h] at hlt;simp at hlt) | exact h
   obtain ⟨hA,hI,hD,-⟩:=gsh_int H.out hx
   have hs1:=HW.out.gsh hA H.out
   have fx:=hs1.c j _ 0 _ hx rfl
   obtain ⟨c1',-,ok1,in1⟩:=fx
   have c1:wr.cell? ⟨g,o+j,none⟩=some (.slice x.s x.n x.c):=by simpa [adr,TC] using c1'
   have OK:Hid (x.n * 5=0∨Somewhere x.s):=ok1
   have IN:Hid (∀ a∈vAs (x.wide 5),IntC wr lo hi a):=in1
   rw [recC_as] at hD
   have D2:Hid (∀ a∈gAs (some ⟨g,o,none⟩) TC.length (R.take j) 0,a∉vAs (x.wide 5)):=hD
   have TK':Hid (gAs (some ⟨g,o,none⟩) TC.length (R.take (j+1)) 0=gAs (some ⟨g,o,none⟩) TC.length (R.take j) 0++vAs (x.wide 5)):=by have q:=gAs_take (s:=some ⟨g,o,none⟩) (wd:=TC.length) hx;rw [recC_as] at q;exact q
   have HB:Hid ((gAs (some ⟨g,o,none⟩) TC.length (R.take j) 0).length+x.n * 5≤10000000):=by
    have h1:=gAs_long (s:=some ⟨g,o,none⟩) (wd:=TC.length) hx
    rw [recC_as,vAs_len] at h1
    have h2:=HN.out
    show _≤_
    simp [VS.wide] at h1
    omega
   have xn:x.n * 5≤10000000:=by have:=HB.out;omega
   have b0:(0:Int)≤(j:Int):=by omega
   have b1:(j:Int) < (R.length:Int):=by omega
   clear hA hs1 hx hI hD in1 ok1 c1'
   go_wp2_with fail
   refine (markSt_any x lo hi z wr OK.out IN.out xn hz0 (by omega)).mono ?_
   rintro e w2 ⟨rfl,hw2⟩
   have W2:Hid (Wrote (gAs (some ⟨g,o,none⟩) TC.length (R.take (j+1)) 0) q w w2):=by
    show Wrote _ _ _ _
    rw [TK'.out]
    exact HW.out.app (by rw [← HZ.out];exact hw2) D2.out
   have zz:0≤z+((x.n * 5:Nat):Int)∧z+((x.n * 5:Nat):Int)≤20000000000000:=by have h1:=HZ.out;have h2:=HB.out;omega
   have ZZ:Hid (z+((x.n * 5:Nat):Int)=q+(gAs (some ⟨g,o,none⟩) TC.length (R.take (j+1)) 0).length):=by
    show _=_
    rw [TK'.out,HZ.out]
    simp [vAs_len,VS.wide]
    omega
   clear hw2
   go_wp2
   go_roundw
   case rel=>exact ⟨j+1,_,by omega,by go_num,rfl,zz.1,zz.2,ZZ.out,W2.out⟩
   case measure=>simp [intOf];omega
  ·go_wp2
   go_ret
   have e:j=R.length:=by omega
   subst e
   have h1:=HW.out
   have h2:=HZ.out
   rw [List.take_length] at h1 h2
   exact ⟨by rw [h2];rfl,h1⟩
set_option maxHeartbeats 1000000 in
theorem heldCs_any (so : Option Addr) (R : List (List FS)) (c lo hi : Nat) (q : Int) (w : World) (h : GSh w lo hi so TC R) (hm : MarkedA w (gAs so TC.length R 0) q) (hs : R.length ≤ 2000000) (hn : (gAs so TC.length R 0).length ≤ 10000000) (hq : 0 ≤ q) (hq' : q ≤ 10000000000000) :
  Calls Tryz.prog 41 #[.slice so R.length c,.int .i64 q] w fun e w'=>e=.returned (.int .i64 (q+(gAs so TC.length R 0).length))∧w'=w:=by
 have H:Hid (GSh w lo hi so TC R):=h
 have HM:Hid (MarkedA w (gAs so TC.length R 0) q):=hm
 have HN:Hid ((gAs so TC.length R 0).length≤10000000):=hn
 clear h hn hm
 go_enter Tryz.func41,Tryz.ntmps41
 go_wp2
 go_loop [1,5] (fun a i=>∃ (j:Nat) (z:Int),j≤R.length∧i=.int .i64 j∧a=.int .i64 z∧0≤z∧z≤20000000000000∧Hid (z=q+(gAs so TC.length (R.take j) 0).length)) (fun _ i=>R.length - (intOf i).toNat)
 case atStart=>exact ⟨0,q,Nat.zero_le _,rfl,rfl,hq,by omega,show _=_ by simp [gAs]⟩
 case round=>
  obtain ⟨j,z,hj,rfl,rfl,hz0,hz1,HZ⟩:=hrel
  by_cases hlt:j < R.length
  ·obtain ⟨r,hx⟩:∃ x,R[j]? =some x:=⟨_,List.getElem?_eq_getElem hlt⟩
   obtain ⟨x,rfl⟩:=kindC (H.out.t j r hx)
   obtain ⟨g,o,rfl⟩:Somewhere so:=by rcases H.out.rok with h | h<;>first | (rw [h] at hlt;simp at hlt) | exact h
   obtain ⟨c1',-,ok1,-⟩:=H.out.c j _ 0 _ hx rfl
   have c1:w.cell? ⟨g,o+j,none⟩=some (.slice x.s x.n x.c):=by simpa [adr,TC] using c1'
   have OK:Hid (x.n * 5=0∨Somewhere x.s):=ok1
   have MR:Hid (MarkedA w (vAs (x.wide 5)) z):=by
    have q:=marked_at HM.out hx
    rw [recC_as,← HZ.out] at q
    exact q
   have TK':Hid (gAs (some ⟨g,o,none⟩) TC.length (R.take (j+1)) 0=gAs (some ⟨g,o,none⟩) TC.length (R.take j) 0++vAs (x.wide 5)):=by have q:=gAs_take (s:=some ⟨g,o,none⟩) (wd:=TC.length) hx;rw [recC_as] at q;exact q
   have HB:Hid ((gAs (some ⟨g,o,none⟩) TC.length (R.take j) 0).length+x.n * 5≤10000000):=by
    have h1:=gAs_long (s:=some ⟨g,o,none⟩) (wd:=TC.length) hx
    rw [recC_as,vAs_len] at h1
    have h2:=HN.out
    show _≤_
    simp [VS.wide] at h1
    omega
   have xn:x.n * 5≤10000000:=by have:=HB.out;omega
   have b0:(0:Int)≤(j:Int):=by omega
   have b1:(j:Int) < (R.length:Int):=by omega
   clear hx ok1 c1'
   go_wp2_with fail
   refine (heldSt_any x z w OK.out MR.out xn hz0 (by omega)).mono ?_
   rintro e w9 ⟨rfl,hw9⟩
   subst w9
   have zz:0≤z+((x.n * 5:Nat):Int)∧z+((x.n * 5:Nat):Int)≤20000000000000:=by have h1:=HZ.out;have h2:=HB.out;omega
   have zn:¬ z+((x.n * 5:Nat):Int) < 0:=by omega
   have ZZ:Hid (z+((x.n * 5:Nat):Int)=q+(gAs (some ⟨g,o,none⟩) TC.length (R.take (j+1)) 0).length):=by
    show _=_
    rw [TK'.out,HZ.out]
    simp [vAs_len,VS.wide]
    omega
   go_wp2
   go_round
   case rel=>exact ⟨j+1,_,by omega,by go_num,rfl,zz.1,zz.2,ZZ.out⟩
   case measure=>simp [intOf];omega
  ·go_wp2
   go_ret
   have e:j=R.length:=by omega
   subst e
   have h2:=HZ.out
   rw [List.take_length] at h2
   exact ⟨by rw [h2];rfl,rfl⟩
end
section
open Go.RowKit
theorem recK_as (s:Option Addr) (x y:VS) (j:Nat):recAs s [.i,.r x 1,.r y 1,.i] (j * TK.length)=adr s (j * 4)::(vAs x++(vAs y++[adr s (j * 4+3)])):=by
 simp [recAs,fAs,wide_one,TK]
set_option maxHeartbeats 2000000 in
theorem markKs_any (so : Option Addr) (R : List (List FS)) (c lo hi : Nat) (q : Int) (w : World) (h : GSh w lo hi so TK R) (hs : R.length ≤ 2000000) (hn : (gAs so TK.length R 0).length ≤ 2000000 * 4) (hv : ∀ r ∈ R, ∀ x e, FS.r x e ∈ r → x.n ≤ 2000000) (hq : 0 ≤ q) (hq' : q ≤ 10000000000000) :
  Calls Tryz.prog 38 #[.slice so R.length c,.int .i64 q] w fun e w'=>e=.returned (.int .i64 (q+(gAs so TK.length R 0).length))∧Wrote (gAs so TK.length R 0) q w w':=by
 have H:Hid (GSh w lo hi so TK R):=h
 have HN:Hid ((gAs so TK.length R 0).length≤2000000 * 4):=hn
 have HV:Hid (∀ r∈R,∀ x e,FS.r x e∈r→x.n≤2000000):=hv
 clear h hn hv
 go_enter Tryz.func38,Tryz.ntmps38
 go_wp2
 go_loopw [1,5] (fun a i wr=>∃ (j:Nat) (z:Int),j≤R.length∧i=.int .i64 j∧a=.int .i64 z∧0≤z∧z≤20000000000000∧Hid (z=q+(gAs so TK.length (R.take j) 0).length)∧Wrote (gAs so TK.length (R.take j) 0) q w wr) (fun _ i _=>R.length - (intOf i).toNat)
 case atStart=>exact ⟨0,q,Nat.zero_le _,rfl,rfl,hq,by omega,show _=_ by simp [gAs],by simpa [gAs] using Wrote.refl q w⟩
 case round=>
  obtain ⟨j,z,hj,rfl,rfl,hz0,hz1,HZ,hw⟩:=hrel
  have HW:Hid (Wrote (gAs so TK.length (R.take j) 0) q w wr):=hw
  clear hw
  by_cases hlt:j < R.length
  ·obtain ⟨r,hx⟩:∃ x,R[j]? =some x:=⟨_,List.getElem?_eq_getElem hlt⟩
   obtain ⟨x,y,rfl⟩:=kindK (H.out.t j r hx)
   obtain ⟨g,o,rfl⟩:Somewhere so:=by rcases H.out.rok with h | h<;>first | (rw [h] at hlt;simp at hlt) | exact h
   obtain ⟨hA,hI,hD,hN⟩:=gsh_int H.out hx
   have hs1:=HW.out.gsh hA H.out
   have xn:x.n≤2000000:=HV.out _ (List.mem_of_getElem? hx) x 1 (by simp)
   have yn:y.n≤2000000:=HV.out _ (List.mem_of_getElem? hx) y 1 (by simp)
   have k0:=hs1.c j _ 0 _ hx rfl
   have k1:=hs1.c j _ 1 _ hx rfl
   have k2:=hs1.c j _ 2 _ hx rfl
   have k3:=hs1.c j _ 3 _ hx rfl
   have e0:adr (some ⟨g,o,none⟩) (j * TK.length+0)=⟨g,o+j * 4,none⟩:=rfl
   have e1:adr (some ⟨g,o,none⟩) (j * TK.length+1)=⟨g,o+j * 4+1,none⟩:=rfl
   have e2:adr (some ⟨g,o,none⟩) (j * TK.length+2)=⟨g,o+j * 4+2,none⟩:=rfl
   have e3:adr (some ⟨g,o,none⟩) (j * TK.length+3)=⟨g,o+j * 4+3,none⟩:=rfl
   rw [e0] at k0
   rw [e1] at k1
   rw [e2] at k2
   rw [e3] at k3
   obtain ⟨⟨z0,c0⟩,f0,-,-⟩:=k0
   obtain ⟨c1,-,ok1,in1⟩:=k1
   obtain ⟨c2,-,ok2,in2⟩:=k2
   obtain ⟨⟨z3,c3⟩,f3,-,-⟩:=k3
   rw [Nat.mul_one] at ok1 ok2
   rw [wide_one] at in1 in2
   rw [recK_as] at hD hN
   have ea:adr (some ⟨g,o,none⟩) (j * 4)=⟨g,o+j * 4,none⟩:=rfl
   have eb:adr (some ⟨g,o,none⟩) (j * 4+3)=⟨g,o+j * 4+3,none⟩:=rfl
   rw [ea,eb] at hD hN
   have TK':Hid (gAs (some ⟨g,o,none⟩) TK.length (R.take (j+1)) 0=gAs (some ⟨g,o,none⟩) TK.length (R.take j) 0++((⟨g,o+j * 4,none⟩:Addr)::(vAs x++(vAs y++[(⟨g,o+j * 4+3,none⟩:Addr)])))):=by have q:=gAs_take (s:=some ⟨g,o,none⟩) (wd:=TK.length) hx;rw [recK_as] at q;exact q
   have HB:Hid ((gAs (some ⟨g,o,none⟩) TK.length (R.take j) 0).length+(2+x.n+y.n)≤2000000 * 4):=by
    have h1:=gAs_long (s:=some ⟨g,o,none⟩) (wd:=TK.length) hx
    rw [recK_as] at h1
    have h2:=HN.out
    show _≤_
    simp [vAs_len] at h1
    omega
   /- the four steps -/
   obtain ⟨n1,hN1⟩:=List.nodup_cons.1 hN
   obtain ⟨nx,hN2,nxy⟩:=List.nodup_append.1 hN1
   obtain ⟨ny,-,ny3⟩:=List.nodup_append.1 hN2
   have D0:(⟨g,o+j * 4,none⟩:Addr)∉gAs (some ⟨g,o,none⟩) TK.length (R.take j) 0:=fun hm=>hD _ hm (by simp)
   have W1:Hid (Wrote (gAs (some ⟨g,o,none⟩) TK.length (R.take j) 0++[(⟨g,o+j * 4,none⟩:Addr)]) q w (wr.setCell ⟨g,o+j * 4,none⟩ (.int .i64 z))):=HW.out.push D0 (by rw [c0];rfl) HZ.out
   have DX:Hid (∀ a∈gAs (some ⟨g,o,none⟩) TK.length (R.take j) 0++[(⟨g,o+j * 4,none⟩:Addr)],a∉vAs x):=fun a ha hm=>by
    rcases List.mem_append.1 ha with ha | ha
    ·exact hD a ha (by simp [hm])
    ·simp at ha
     subst ha
     exact n1 (by simp [hm])
   have DY:Hid (∀ a∈(gAs (some ⟨g,o,none⟩) TK.length (R.take j) 0++[(⟨g,o+j * 4,none⟩:Addr)])++vAs x,a∉vAs y):=fun a ha hm=>by
    rcases List.mem_append.1 ha with ha | ha
    ·rcases List.mem_append.1 ha with ha | ha
     ·exact hD a ha (by simp [hm])
     ·simp at ha
      subst ha
      exact n1 (by simp [hm])
    ·exact nxy a ha a (by simp [hm]) rfl
   have D3:Hid ((⟨g,o+j * 4+3,none⟩:Addr)∉((gAs (some ⟨g,o,none⟩) TK.length (R.take j) 0++[(⟨g,o+j * 4,none⟩:Addr)])++vAs x)++vAs y):=fun ha=>by
    rcases List.mem_append.1 ha with ha | ha
    ·rcases List.mem_append.1 ha with ha | ha
     ·rcases List.mem_append.1 ha with ha | ha
      ·exact hD _ ha (by simp)
      ·simp at ha
     ·exact nxy _ ha _ (by simp) rfl
    ·exact ny3 _ ha _ (by simp) rfl
   have hA1:∀ a∈gAs (some ⟨g,o,none⟩) TK.length (R.take j) 0++[(⟨g,o+j * 4,none⟩:Addr)],∃ z,w.cell? a=some (.int .i64 z):=fun a ha=>by
    rcases List.mem_append.1 ha with ha | ha
    ·exact hA a ha
    ·simp at ha
     subst ha
     have q:=(H.out.c j _ 0 _ hx rfl)
     rw [e0] at q
     exact q.1
   have S2:=W1.out.gsh hA1 H.out
   have OK1:Hid (x.n=0∨Somewhere x.s):=ok1
   have OK2:Hid (y.n=0∨Somewhere y.s):=ok2
   have IN1:Hid (∀ a∈vAs x,IntC (wr.setCell ⟨g,o+j * 4,none⟩ (.int .i64 z)) lo hi a):=fun a ha=>by
    have q:=(S2.c j _ 1 _ hx rfl).2.2.2
    rw [wide_one] at q
    exact q a ha
   have IN2:Hid (∀ a∈vAs y,IntC w lo hi a):=fun a ha=>by
    have q:=(H.out.c j _ 2 _ hx rfl).2.2.2
    rw [wide_one] at q
    exact q a ha
   have hA2:Hid (∀ a∈(gAs (some ⟨g,o,none⟩) TK.length (R.take j) 0++[(⟨g,o+j * 4,none⟩:Addr)])++vAs x,∃ z,w.cell? a=some (.int .i64 z)):=fun a ha=>by
    rcases List.mem_append.1 ha with ha | ha
    ·exact hA1 a ha
    ·have q:=(H.out.c j _ 1 _ hx rfl).2.2.2
     rw [wide_one] at q
     exact (q a ha).1
   have hA3:Hid (∀ a∈((gAs (some ⟨g,o,none⟩) TK.length (R.take j) 0++[(⟨g,o+j * 4,none⟩:Addr)])++vAs x)++vAs y,∃ z,w.cell? a=some (.int .i64 z)):=fun a ha=>by
    rcases List.mem_append.1 ha with ha | ha
    ·exact hA2.out a ha
    ·exact (IN2.out a ha).1
   have HX:Hid (R[j]? =some [.i,.r x 1,.r y 1,.i]):=hx
   have b0:(0:Int)≤(j:Int):=by omega
   have b1:(j:Int) < (R.length:Int):=by omega
   clear hA hs1 hx hI hD hN in1 in2 ok1 ok2 hA1 S2 n1 hN1 nx hN2 nxy ny ny3 D0 e0 e1 e2 e3 ea eb c3 f3 c2
   go_wp2_with fail
   refine (markI_any x lo hi (z+1) _ OK1.out IN1.out xn (by omega) (by omega)).mono ?_
   rintro e w2 ⟨rfl,hw2⟩
   have W2:Hid (Wrote ((gAs (some ⟨g,o,none⟩) TK.length (R.take j) 0++[(⟨g,o+j * 4,none⟩:Addr)])++vAs x) q w w2):=by
    refine W1.out.app ?_ DX.out
    have e:q+((gAs (some ⟨g,o,none⟩) TK.length (R.take j) 0++[(⟨g,o+j * 4,none⟩:Addr)]).length:Int)=z+1:=by have:=HZ.out;simp;omega
    rw [e]
    exact hw2
   clear hw2 c0 c1 f0
   have S2:=W2.out.gsh hA2.out H.out
   have k2:=(S2.c j _ 2 _ HX.out rfl).1
   have c2:w2.cell? ⟨g,o+j * 4+2,none⟩=some (.slice y.s y.n y.c):=k2
   have I2:Hid (∀ a∈vAs y,IntC w2 lo hi a):=fun a ha=>W2.out.intc (IN2.out a ha)
   have zz1:0≤z+1+(x.n:Int)∧z+1+(x.n:Int)≤30000000000000:=by omega
   clear S2 k2
   go_wp2_with fail
   refine (markI_any y lo hi (z+1+x.n) w2 OK2.out I2.out yn zz1.1 (by omega)).mono ?_
   rintro e w3 ⟨rfl,hw3⟩
   have W3:Hid (Wrote (((gAs (some ⟨g,o,none⟩) TK.length (R.take j) 0++[(⟨g,o+j * 4,none⟩:Addr)])++vAs x)++vAs y) q w w3):=by
    refine W2.out.app ?_ DY.out
    have e:q+(((gAs (some ⟨g,o,none⟩) TK.length (R.take j) 0++[(⟨g,o+j * 4,none⟩:Addr)])++vAs x).length:Int)=z+1+x.n:=by have:=HZ.out;simp [vAs_len];omega
    rw [e]
    exact hw3
   clear hw3 c2
   have S3:=W3.out.gsh hA3.out H.out
   have k3:=S3.c j _ 3 _ HX.out rfl
   obtain ⟨⟨z3,c3⟩,f3,-,-⟩:=k3
   have c3':w3.cell? ⟨g,o+j * 4+3,none⟩=some (.int .i64 z3):=c3
   have f3':w3.frozen? ⟨g,o+j * 4+3,none⟩=false:=f3
   have W4:Hid (Wrote (gAs (some ⟨g,o,none⟩) TK.length (R.take (j+1)) 0) q w (w3.setCell ⟨g,o+j * 4+3,none⟩ (.int .i64 (z+1+x.n+y.n)))):=by
    have q:=W3.out.push (z:=z+1+x.n+y.n) D3.out (by rw [c3'];rfl) (by have:=HZ.out;simp [vAs_len];omega)
    show Wrote _ _ _ _
    rw [TK'.out]
    simpa [List.append_assoc] using q
   have zz2:0≤z+1+(x.n:Int)+(y.n:Int)∧z+1+(x.n:Int)+(y.n:Int)≤30000000000000:=by omega
   have zz3:z+1+(x.n:Int)+(y.n:Int)+1≤20000000000000:=by have h1:=HZ.out;have h2:=HB.out;omega
   have ZZ:Hid (z+1+(x.n:Int)+(y.n:Int)+1=q+(gAs (some ⟨g,o,none⟩) TK.length (R.take (j+1)) 0).length):=by
    show _=_
    rw [TK'.out,HZ.out]
    simp [vAs_len]
    omega
   clear S3 c3 f3
   go_wp2
   go_roundw
   case rel=>exact ⟨j+1,_,by omega,by go_num,rfl,by omega,zz3,ZZ.out,W4.out⟩
   case measure=>simp [intOf];omega
  ·go_wp2
   go_ret
   have e:j=R.length:=by omega
   subst e
   have h1:=HW.out
   have h2:=HZ.out
   rw [List.take_length] at h1 h2
   exact ⟨by rw [h2];rfl,h1⟩
set_option maxHeartbeats 2000000 in
theorem heldKs_any (so : Option Addr) (R : List (List FS)) (c lo hi : Nat) (q : Int) (w : World) (h : GSh w lo hi so TK R) (hm : MarkedA w (gAs so TK.length R 0) q) (hs : R.length ≤ 2000000) (hn : (gAs so TK.length R 0).length ≤ 2000000 * 4) (hv : ∀ r ∈ R, ∀ x e, FS.r x e ∈ r → x.n ≤ 2000000) (hq : 0 ≤ q) (hq' : q ≤ 10000000000000) :
  Calls Tryz.prog 42 #[.slice so R.length c,.int .i64 q] w fun e w'=>e=.returned (.int .i64 (q+(gAs so TK.length R 0).length))∧w'=w:=by
 have H:Hid (GSh w lo hi so TK R):=h
 have HM:Hid (MarkedA w (gAs so TK.length R 0) q):=hm
 have HN:Hid ((gAs so TK.length R 0).length≤2000000 * 4):=hn
 have HV:Hid (∀ r∈R,∀ x e,FS.r x e∈r→x.n≤2000000):=hv
 clear h hn hv hm
 go_enter Tryz.func42,Tryz.ntmps42
 go_wp2
 go_loop [1,5] (fun a i=>∃ (j:Nat) (z:Int),j≤R.length∧i=.int .i64 j∧a=.int .i64 z∧0≤z∧z≤20000000000000∧Hid (z=q+(gAs so TK.length (R.take j) 0).length)) (fun _ i=>R.length - (intOf i).toNat)
 case atStart=>exact ⟨0,q,Nat.zero_le _,rfl,rfl,hq,by omega,show _=_ by simp [gAs]⟩
 case round=>
  obtain ⟨j,z,hj,rfl,rfl,hz0,hz1,HZ⟩:=hrel
  by_cases hlt:j < R.length
  ·obtain ⟨r,hx⟩:∃ x,R[j]? =some x:=⟨_,List.getElem?_eq_getElem hlt⟩
   obtain ⟨x,y,rfl⟩:=kindK (H.out.t j r hx)
   obtain ⟨g,o,rfl⟩:Somewhere so:=by rcases H.out.rok with h | h<;>first | (rw [h] at hlt;simp at hlt) | exact h
   have xn:x.n≤2000000:=HV.out _ (List.mem_of_getElem? hx) x 1 (by simp)
   have yn:y.n≤2000000:=HV.out _ (List.mem_of_getElem? hx) y 1 (by simp)
   have k1:=H.out.c j _ 1 _ hx rfl
   have k2:=H.out.c j _ 2 _ hx rfl
   have e1:adr (some ⟨g,o,none⟩) (j * TK.length+1)=⟨g,o+j * 4+1,none⟩:=rfl
   have e2:adr (some ⟨g,o,none⟩) (j * TK.length+2)=⟨g,o+j * 4+2,none⟩:=rfl
   rw [e1] at k1
   rw [e2] at k2
   obtain ⟨c1,-,ok1,-⟩:=k1
   obtain ⟨c2,-,ok2,-⟩:=k2
   rw [Nat.mul_one] at ok1 ok2
   have MR:=marked_at HM.out hx
   rw [recK_as,← HZ.out] at MR
   have ea:adr (some ⟨g,o,none⟩) (j * 4)=⟨g,o+j * 4,none⟩:=rfl
   have eb:adr (some ⟨g,o,none⟩) (j * 4+3)=⟨g,o+j * 4+3,none⟩:=rfl
   rw [ea,eb] at MR
   have c0:w.cell? ⟨g,o+j * 4,none⟩=some (.int .i64 z):=by have q:=MR 0 _ rfl;simpa using q
   have X1:Hid (∀ i,i < x.n→w.cell? (adr x.s i)=some (.int .i64 (z+1+i))):=fun i hi'=>by
    have q:=MR (i+1) (adr x.s i) (by rw [List.getElem?_cons_succ,List.getElem?_append_left (by rw [vAs_len];exact hi')];exact vAs_at hi')
    rw [q]
    congr 2
    push_cast
    omega
   have X2:Hid (∀ i,i < y.n→w.cell? (adr y.s i)=some (.int .i64 (z+1+x.n+i))):=fun i hi'=>by
    have q:=MR (x.n+i+1) (adr y.s i) (by
     rw [List.getElem?_cons_succ,List.getElem?_append_right (by rw [vAs_len];omega),vAs_len,show x.n+i - x.n=i by omega,List.getElem?_append_left (by rw [vAs_len];exact hi')]
     exact vAs_at hi')
    rw [q]
    congr 2
    push_cast
    omega
   have c3:w.cell? ⟨g,o+j * 4+3,none⟩=some (.int .i64 (z+1+x.n+y.n)):=by
    have q:=MR (x.n+y.n+1) ⟨g,o+j * 4+3,none⟩ (by
     rw [List.getElem?_cons_succ,List.getElem?_append_right (by rw [vAs_len];omega),vAs_len,show x.n+y.n - x.n=y.n by omega,List.getElem?_append_right (by rw [vAs_len];omega),vAs_len,Nat.sub_self]
     rfl)
    rw [q]
    congr 2
    push_cast
    omega
   have OK1:Hid (x.n=0∨Somewhere x.s):=ok1
   have OK2:Hid (y.n=0∨Somewhere y.s):=ok2
   have TK':Hid (gAs (some ⟨g,o,none⟩) TK.length (R.take (j+1)) 0=gAs (some ⟨g,o,none⟩) TK.length (R.take j) 0++((⟨g,o+j * 4,none⟩:Addr)::(vAs x++(vAs y++[(⟨g,o+j * 4+3,none⟩:Addr)])))):=by have q:=gAs_take (s:=some ⟨g,o,none⟩) (wd:=TK.length) hx;rw [recK_as] at q;exact q
   have HB:Hid ((gAs (some ⟨g,o,none⟩) TK.length (R.take j) 0).length+(2+x.n+y.n)≤2000000 * 4):=by
    have h1:=gAs_long (s:=some ⟨g,o,none⟩) (wd:=TK.length) hx
    rw [recK_as] at h1
    have h2:=HN.out
    show _≤_
    simp [vAs_len] at h1
    omega
   have b0:(0:Int)≤(j:Int):=by omega
   have b1:(j:Int) < (R.length:Int):=by omega
   have hzz:(z !=z)=false:=by simp
   have hz3:((z+1+(x.n:Int)+(y.n:Int)) !=(z+1+(x.n:Int)+(y.n:Int)))=false:=by simp
   have zz1:0≤z+1+(x.n:Int)∧z+1+(x.n:Int)≤30000000000000:=by omega
   have zn1:¬ z+1+(x.n:Int) < 0:=by omega
   have zn2:¬ z+1+(x.n:Int)+(y.n:Int) < 0:=by omega
   clear hx MR ok1 ok2 e1 e2 ea eb
   go_wp2_with fail
   refine (heldI_any x (z+1) w OK1.out X1.out xn (by omega) (by omega)).mono ?_
   rintro e w9 ⟨rfl,hw9⟩
   subst w9
   go_wp2_with fail
   refine (heldI_any y (z+1+x.n) w OK2.out X2.out yn zz1.1 (by omega)).mono ?_
   rintro e w9 ⟨rfl,hw9⟩
   subst w9
   have zz3:z+1+(x.n:Int)+(y.n:Int)+1≤20000000000000:=by have h1:=HZ.out;have h2:=HB.out;omega
   have ZZ:Hid (z+1+(x.n:Int)+(y.n:Int)+1=q+(gAs (some ⟨g,o,none⟩) TK.length (R.take (j+1)) 0).length):=by
    show _=_
    rw [TK'.out,HZ.out]
    simp [vAs_len]
    omega
   go_wp2
   go_round
   case rel=>exact ⟨j+1,_,by omega,by go_num,rfl,by omega,zz3,ZZ.out⟩
   case measure=>simp [intOf];omega
  ·go_wp2
   go_ret
   have e:j=R.length:=by omega
   subst e
   have h2:=HZ.out
   rw [List.take_length] at h2
   exact ⟨by rw [h2];rfl,rfl⟩
end
section
open Go.RowKit
theorem MarkedA.far {w w':World} {A B:List Addr} {q r:Int} (h:MarkedA w A q) (hw:Wrote B r w w') (hd:∀ a∈A,a∉B):MarkedA w' A q:=fun p a ha=>(hw.far a (hd a (List.mem_of_getElem? ha))).trans (h p a ha)
theorem MarkedA.below {w w':World} {A:List Addr} {q:Int} {K:Nat} (h:MarkedA w A q) (hb:Below K w w') (hA:∀ a∈A,a.block < K):MarkedA w' A q:=fun p a ha=>(hb.cell (hA a (List.mem_of_getElem? ha))).trans (h p a ha)
theorem MarkedA.app {w:World} {A B:List Addr} {q:Int} (h:MarkedA w A q) (h':MarkedA w B (q+A.length)):MarkedA w (A++B) q:=fun p a ha=>by
 by_cases hp:p < A.length
 ·rw [List.getElem?_append_left hp] at ha
  exact h p a ha
 ·rw [List.getElem?_append_right (by omega)] at ha
  rw [h' _ a ha]
  congr 2
  omega
theorem MarkedA.left {w:World} {A B:List Addr} {q:Int} (h:MarkedA w (A++B) q):MarkedA w A q:=fun p a ha=>h p a (by rw [List.getElem?_append_left (List.getElem?_eq_some_iff.1 ha).1];exact ha)
theorem MarkedA.right {w:World} {A B:List Addr} {q:Int} (h:MarkedA w (A++B) q):MarkedA w B (q+A.length):=fun p a ha=>by
 have:=h (A.length+p) a (by rw [List.getElem?_append_right (by omega),show A.length+p - A.length=p by omega];exact ha)
 rw [this]
 congr 2
 push_cast
 omega
structure MaSh (w:World) (lo hi:Nat) (p:MP) (d:MD):Prop where
 c:GSh w lo hi p.s1 TC p.RC
 k:GSh w lo hi p.s2 TK p.RK
 m:Sh w lo hi p.s3 p.S
 to:d.tr.length * 2=0∨Somewhere p.s4
 t:∀ a∈vAs (p.x4 d),IntC w lo hi a
 nc:p.RC.length=d.codes.length
 nk:p.RK.length=d.cores.length
 nm:p.S.length=d.mem.length
 sc:(gAs p.s1 TC.length p.RC 0).length=5 * szC d.codes
 sk:(gAs p.s2 TK.length p.RK 0).length=2 * d.cores.length+szK d.cores
 sm:(mAs p.S).length=szR d.mem
 vk:∀ r∈p.RK,∀ x e,FS.r x e∈r→x.n≤szK d.cores
 d:(p.as d).Nodup
theorem MaSh.keep {w w':World} {lo hi:Nat} {p:MP} {d:MD} (h:MaSh w lo hi p d) (hb:Keep lo hi w w'):MaSh w' lo hi p d:=⟨h.c.keep hb,h.k.keep hb,h.m.keep hb,h.to,fun a ha=>(h.t a ha).keep hb,h.nc,h.nk,h.nm,h.sc,h.sk,h.sm,h.vk,h.d⟩
theorem Wrote.mash {A:List Addr} {q:Int} {w w':World} (h:Wrote A q w w') (hA:∀ a∈A,∃ z,w.cell? a=some (.int .i64 z)) {lo hi:Nat} {p:MP} {d:MD} (hs:MaSh w lo hi p d):MaSh w' lo hi p d:=⟨h.gsh hA hs.c,h.gsh hA hs.k,h.sh hA hs.m,hs.to,fun a ha=>h.intc (hs.t a ha),hs.nc,hs.nk,hs.nm,hs.sc,hs.sk,hs.sm,hs.vk,hs.d⟩
theorem cs_sz {w:World} {lo hi:Nat} {s:Option Addr}:∀ (R:List (List FS)) (l:List (List I5)) (k:Nat),R.length=l.length→(∀ (i:Nat) (r:List FS) (y:List I5),R[i]? =some r→l[i]? =some y→∃ x,r=[.r x 5]∧x.n=y.length)→(gAs s TC.length R k).length=5 * szC l
 | [],[],k,_,_=>by simp [gAs,szC]
 | r::R,y::l,k,h,hv=>by
  have h1:=cs_sz (w:=w) (lo:=lo) (hi:=hi) (s:=s) R l (k+1) (by simpa using h) (fun i a b ha hb=>hv (i+1) a b (by simpa using ha) (by simpa using hb))
  obtain ⟨x,rfl,hx⟩:=hv 0 r y rfl rfl
  simp only [gAs,List.length_append,h1,recC_as,vAs_len,szC]
  simp [VS.wide]
  omega
 | [],y::t,k,h,_=>by simp at h
 | x::r,[],k,h,_=>by simp at h
theorem ks_sz {w:World} {lo hi:Nat} {s:Option Addr}:∀ (R:List (List FS)) (l:List KD) (k:Nat),R.length=l.length→(∀ (i:Nat) (r:List FS) (y:KD),R[i]? =some r→l[i]? =some y→∃ x z,r=[.i,.r x 1,.r z 1,.i]∧x.n=y.regs.length∧z.n=y.vw.length)→(gAs s TK.length R k).length=2 * l.length+szK l
 | [],[],k,_,_=>by simp [gAs,szK]
 | r::R,y::l,k,h,hv=>by
  have h1:=ks_sz (w:=w) (lo:=lo) (hi:=hi) (s:=s) R l (k+1) (by simpa using h) (fun i a b ha hb=>hv (i+1) a b (by simpa using ha) (by simpa using hb))
  obtain ⟨x,z,rfl,hx,hz⟩:=hv 0 r y rfl rfl
  simp only [gAs,List.length_append,h1,recK_as,szK]
  simp [vAs_len]
  omega
 | [],y::t,k,h,_=>by simp at h
 | x::r,[],k,h,_=>by simp at h
theorem GO.csAt {w:World} {lo hi:Nat} {s:Option Addr} {R:List (List FS)} {l:List (List I5)} (h:GO w lo hi s TC R (l.map codeV)):∀ (i:Nat) (r:List FS) (y:List I5),R[i]? =some r→l[i]? =some y→∃ x,r=[.r x 5]∧x.n=y.length:=fun i r y hr hy=>by
 obtain ⟨x,rfl⟩:=kindC (h.t i r hr)
 have q:=((h.c i _ (codeV y) hr (by rw [List.getElem?_map,hy];rfl)).2 0 (.r x 5) (.r (fl5 y)) rfl rfl).2.2.n
 rw [fl5_len] at q
 simp [VS.wide] at q
 exact ⟨x,rfl,by omega⟩
theorem GO.ksAt {w:World} {lo hi:Nat} {s:Option Addr} {R:List (List FS)} {l:List KD} (h:GO w lo hi s TK R (l.map coreV)):∀ (i:Nat) (r:List FS) (y:KD),R[i]? =some r→l[i]? =some y→∃ x z,r=[.i,.r x 1,.r z 1,.i]∧x.n=y.regs.length∧z.n=y.vw.length:=fun i r y hr hy=>by
 obtain ⟨x,z,rfl⟩:=kindK (h.t i r hr)
 have c:=(h.c i _ (coreV y) hr (by rw [List.getElem?_map,hy];rfl)).2
 have q1:=(c 1 (.r x 1) (.r y.regs) rfl rfl).2.2.n
 have q2:=(c 2 (.r z 1) (.r y.vw) rfl rfl).2.2.n
 rw [wide_one] at q1 q2
 exact ⟨x,z,rfl,q1,q2⟩
theorem MaO.sh {w:World} {lo hi:Nat} {p:MP} {d:MD} (h:MaO w lo hi p d):MaSh w lo hi p d:=by
 have nc:p.RC.length=d.codes.length:=by have:=h.c.n;simpa using this
 have nk:p.RK.length=d.cores.length:=by have:=h.k.n;simpa using this
 refine ⟨h.c.sh,h.k.sh,h.m.sh,?_,fun a ha=>h.t.intc ha,nc,nk,h.m.n,cs_sz (w:=w) (lo:=lo) (hi:=hi) _ _ _ nc h.c.csAt,ks_sz (w:=w) (lo:=lo) (hi:=hi) _ _ _ nk h.k.ksAt,h.m.sz,fun r hr x e hx=>?_,h.d⟩
 ·rcases h.t.c with e | ⟨g,o,e,-⟩
  ·have:=fl2_len d.tr
   rw [e] at this
   exact .inl (by simpa using this.symm)
  ·exact .inr ⟨g,o,e⟩
 ·obtain ⟨i,hi',e'⟩:=List.getElem_of_mem hr
  have hr':p.RK[i]? =some r:=by rw [List.getElem?_eq_getElem hi',e']
  obtain ⟨y,hy⟩:=at_same nk.symm hr'
  obtain ⟨x1,x2,rfl,h1,h2⟩:=h.k.ksAt i r y hr' hy
  have:=szK_at d.cores i y hy
  simp at hx
  rcases hx with ⟨rfl,-⟩ | ⟨rfl,-⟩<;>omega
theorem MaSh.parts {w : World} {lo hi : Nat} {p : MP} {d : MD} (h : MaSh w lo hi p d) :
  (∀ a∈gAs p.s1 TC.length p.RC 0,a∉gAs p.s2 TK.length p.RK 0∧a∉mAs p.S∧a∉vAs (p.x4 d))∧(∀ a∈gAs p.s2 TK.length p.RK 0,a∉mAs p.S∧a∉vAs (p.x4 d))∧(∀ a∈mAs p.S,a∉vAs (p.x4 d)):=by
 have nod:=h.d
 unfold MP.as at nod
 obtain ⟨-,n2,d1⟩:=List.nodup_append.1 nod
 obtain ⟨-,n3,d2⟩:=List.nodup_append.1 n2
 obtain ⟨-,-,d3⟩:=List.nodup_append.1 n3
 exact ⟨fun a ha=>⟨fun hm=>d1 a ha a (by simp [hm]) rfl,fun hm=>d1 a ha a (by simp [hm]) rfl,fun hm=>d1 a ha a (by simp [hm]) rfl⟩,fun a ha=>⟨fun hm=>d2 a ha a (by simp [hm]) rfl,fun hm=>d2 a ha a (by simp [hm]) rfl⟩,fun a ha hm=>d3 a ha a hm rfl⟩
theorem Wrote.exc {A:List Addr} {q:Int} {w w':World} {lo hi:Nat} (h:Wrote A q w w') (hA:∀ a∈A,lo≤a.block∧a.block < hi):Exc lo hi w w':=⟨h.os,h.tape,h.out,by rw [h.size];exact Nat.le_refl _,fun k _ hc=>h.blk k (fun a ha e=>by have:=hA a ha;omega)⟩
theorem Exc.trans {lo hi:Nat} {w w1 w2:World} (h:Exc lo hi w w1) (h':Exc lo hi w1 w2):Exc lo hi w w2:=⟨h'.os.trans h.os,h'.tape.trans h.tape,h'.out.trans h.out,Nat.le_trans h.size h'.size,fun k hk hc=>(h'.blk k (Nat.lt_of_lt_of_le hk h.size) hc).trans (h.blk k hk hc)⟩
theorem exc_of {lo hi:Nat} {w w':World} (h:Below w.heap.size w w'):Exc lo hi w w':=⟨h.os,h.tape,h.output,h.size,fun k hk _=>h.block k hk⟩
theorem B4.exc {w w':World} {b lo hi:Nat} {v0 v1 v2 v3:Value} (h:B4 w b v0 v1 v2 v3) (he:Exc lo hi w w') (hb:b < lo∨hi≤b):B4 w' b v0 v1 v2 v3:=by
 have k:w'.heap[b]? =w.heap[b]? :=he.blk b h.z hb
 exact ⟨Nat.lt_of_lt_of_le h.z he.size,(World.cell?_of_block (w:=w) k).trans h.c0,(World.cell?_of_block (w:=w) k).trans h.c1,(World.cell?_of_block (w:=w) k).trans h.c2,(World.cell?_of_block (w:=w) k).trans h.c3⟩
set_option maxHeartbeats 1000000 in
theorem markMemory_sh (so : Option Addr) (S : List RS) (n c lo hi : Nat) (q : Int) (w : World) (h : Sh w lo hi so S) (hB : hi ≤ w.heap.size) (hn : S.length = n) (hl : n ≤ 2000000) (hm : (mAs S).length ≤ 2000000) (hq : 0 ≤ q) (hq' : q ≤ 10000000000000) :
  Calls Tryz.prog 39 #[.agg #[.slice so n c],.int .i64 q] w fun e w'=>e=.returned (.int .i64 (q+(mAs S).length))∧∃ W,Below w.heap.size w W∧Wrote (mAs S) q W w':=by
 subst hn
 have k0:Below w.heap.size w (w.alloc (.cells #[.slice so S.length c] 35)):=(Below.refl _ _).alloc (Nat.le_refl _) _
 have cm:=markRs_any so S c lo hi q (w.alloc (.cells #[.slice so S.length c] 35)) (h.keep (Keep.of_below k0 hB)) hl hm hq hq'
 have HK:Hid (Below w.heap.size w (w.alloc (.cells #[.slice so S.length c] 35))):=k0
 clear h k0
 go_enter Tryz.func39,Tryz.ntmps39
 go_wp2_with (go_at_call 76;refine cm.mono ?_;rintro e w1 ⟨rfl,hw1⟩;have HW1:=(show Hid _ from hw1);clear hw1)
 go_ret
 exact ⟨rfl,_,HK.out,HW1.out⟩
set_option maxHeartbeats 1000000 in
theorem heldMemory_sh (so : Option Addr) (S : List RS) (n c lo hi : Nat) (q : Int) (w : World) (h : Sh w lo hi so S) (hM : MarkedA w (mAs S) q) (hB : hi ≤ w.heap.size) (hn : S.length = n) (hl : n ≤ 2000000) (hm : (mAs S).length ≤ 2000000) (hq : 0 ≤ q) (hq' : q ≤ 10000000000000) :
  Calls Tryz.prog 43 #[.agg #[.slice so n c],.int .i64 q] w fun e w'=>e=.returned (.int .i64 (q+(mAs S).length))∧Below w.heap.size w w':=by
 subst hn
 have k0:Below w.heap.size w (w.alloc (.cells #[.slice so S.length c] 35)):=(Below.refl _ _).alloc (Nat.le_refl _) _
 have cm:=heldRs_any so S c lo hi q (w.alloc (.cells #[.slice so S.length c] 35)) (h.keep (Keep.of_below k0 hB)) (hM.below k0 (fun a ha=>by have:=(h.int a ha).2.2.2;omega)) hl hm hq hq'
 have HK:Hid (Below w.heap.size w (w.alloc (.cells #[.slice so S.length c] 35))):=k0
 have hnn:¬ q+((mAs S).length:Int) < 0:=by omega
 clear h k0 hM
 go_enter Tryz.func43,Tryz.ntmps43
 go_wp2_with (go_at_call 79;refine cm.mono ?_;rintro e w1 ⟨rfl,hw1⟩;subst w1)
 go_ret
 exact ⟨rfl,HK.out⟩
structure MaMk (w:World) (lo hi:Nat) (p:MP) (d:MD) (q:Int):Prop where
 sh:MaSh w lo hi p d
 m:MarkedA w (p.as d) q
theorem MaSh.int {w:World} {lo hi:Nat} {p:MP} {d:MD} (h:MaSh w lo hi p d):∀ a∈p.as d,IntC w lo hi a:=fun a ha=>by
 rcases List.mem_append.1 ha with ha | ha
 ·exact h.c.int a ha
 ·rcases List.mem_append.1 ha with ha | ha
  ·exact h.k.int a ha
  ·rcases List.mem_append.1 ha with ha | ha
   ·exact h.m.int a ha
   ·exact h.t a ha
theorem MaMk.keep {w w':World} {lo hi:Nat} {p:MP} {d:MD} {q:Int} (h:MaMk w lo hi p d q) (hb:Keep lo hi w w'):MaMk w' lo hi p d q:=
 ⟨h.sh.keep hb,fun i a ha=>by obtain ⟨-,-,b,c⟩:=h.sh.int a (List.mem_of_getElem? ha);exact (hb.cell b c).trans (h.m i a ha)⟩
def MP.len (p:MP) (d:MD):Nat:=5 * szC d.codes+(2 * d.cores.length+szK d.cores)+szR d.mem+d.tr.length * 2
end
section
open Go.RowKit
set_option maxHeartbeats 2000000 in
theorem markMachine_any (p : MP) (d : MD) (lo hi : Nat) (q : Int) (w : World) (h : MaSh w lo hi p d) (hB : hi ≤ w.heap.size) (hf : MaFits d) (hq : 0 ≤ q) (hq' : q ≤ 1000000000000) :
  Calls Tryz.prog 10 #[.agg #[.slice p.s1 d.codes.length p.c1,.slice p.s2 d.cores.length p.c2,.slice p.s3 d.mem.length p.c3,.slice p.s4 d.tr.length p.c4],.int .i64 q] w fun e w'=>e=.returned (.int .i64 (q+p.len d))∧MaMk w' lo hi p d q∧Exc lo hi w w'∧∀ k,k < w.heap.size→(∀ a∈p.as d,a.block≠k)→w'.heap[k]? =w.heap[k]? :=by
 have F1:d.codes.length+szC d.codes≤1048576:=hf.c
 have F2:d.cores.length+szK d.cores≤2000000:=by have:=hf.k;omega
 have F3:d.mem.length+szR d.mem≤2000000:=hf.m
 have F4:d.tr.length≤2000000:=hf.t
 have H:Hid (MaSh w lo hi p d):=h
 obtain ⟨N1,h1,b1⟩:∃ n,(gAs p.s1 TC.length p.RC 0).length=n∧n≤6000000:=⟨_,rfl,by have:=h.sc;omega⟩
 obtain ⟨N2,h2,b2⟩:∃ n,(gAs p.s2 TK.length p.RK 0).length=n∧n≤2000000 * 4:=⟨_,rfl,by have:=h.sk;omega⟩
 obtain ⟨N3,h3,b3⟩:∃ n,(mAs p.S).length=n∧n≤2000000:=⟨_,rfl,by have:=h.sm;omega⟩
 have LN:Hid (q+(N1:Int)+N2+N3+((d.tr.length * 2:Nat):Int)=q+p.len d):=by
  have:=h.sc;have:=h.sk;have:=h.sm
  show _=_;unfold MP.len;push_cast;omega
 have C1:Hid (∀ W,MaSh W lo hi p d→Calls Tryz.prog 37 #[.slice p.s1 d.codes.length p.c1,.int .i64 q] W fun e w'=>e=.returned (.int .i64 (q+N1))∧Wrote (gAs p.s1 TC.length p.RC 0) q W w'):=fun W hW=>by
  have C:=markCs_any p.s1 p.RC p.c1 lo hi q W hW.c (by have:=hW.nc;omega) (by omega) hq (by omega)
  rw [hW.nc,h1] at C
  exact C
 have C2:Hid (∀ W,MaSh W lo hi p d→Calls Tryz.prog 38 #[.slice p.s2 d.cores.length p.c2,.int .i64 (q+N1)] W fun e w'=>e=.returned (.int .i64 (q+N1+N2))∧Wrote (gAs p.s2 TK.length p.RK 0) (q+N1) W w'):=fun W hW=>by
  have C:=markKs_any p.s2 p.RK p.c2 lo hi (q+N1) W hW.k (by have:=hW.nk;omega) (by omega) (fun r hr x e hx=>by have:=hW.vk r hr x e hx;omega) (by omega) (by omega)
  rw [hW.nk,h2] at C
  exact C
 have C3:Hid (∀ W,MaSh W lo hi p d→hi≤W.heap.size→Calls Tryz.prog 39 #[.agg #[.slice p.s3 d.mem.length p.c3],.int .i64 (q+N1+N2)] W fun e w'=>e=.returned (.int .i64 (q+N1+N2+N3))∧∃ V,Below W.heap.size W V∧Wrote (mAs p.S) (q+N1+N2) V w'):=fun W hW hs=>by
  have C:=markMemory_sh p.s3 p.S d.mem.length p.c3 lo hi (q+N1+N2) W hW.m hs hW.nm (by omega) (by omega) (by omega) (by omega)
  rw [h3] at C
  exact C
 have L1:Hid ((gAs p.s1 TC.length p.RC 0).length=N1):=h1
 have L2:Hid ((gAs p.s2 TK.length p.RK 0).length=N2):=h2
 have L3:Hid ((mAs p.S).length=N3):=h3
 clear h1 h2 h3
 obtain ⟨dis1,dis2,dis3⟩:=h.parts
 have I:Hid (∀ a∈p.as d,lo≤a.block∧a.block < hi):=fun a ha=>(h.int a ha).2.2
 have D1:Hid (∀ a∈gAs p.s1 TC.length p.RC 0,a∉gAs p.s2 TK.length p.RK 0∧a∉mAs p.S∧a∉vAs (p.x4 d)):=dis1
 have D2:Hid (∀ a∈gAs p.s2 TK.length p.RK 0,a∉mAs p.S∧a∉vAs (p.x4 d)):=dis2
 have D3:Hid (∀ a∈mAs p.S,a∉vAs (p.x4 d)):=dis3
 clear h hf dis1 dis2 dis3
 go_enter Tryz.func10,Tryz.ntmps10
 go_wp2_with fail
 obtain ⟨W,hW,bx,kb,zb⟩:=B4.new w (.slice p.s1 d.codes.length p.c1) (.slice p.s2 d.cores.length p.c2) (.slice p.s3 d.mem.length p.c3) (.slice p.s4 d.tr.length p.c4) 38
 rw [hW]
 clear hW
 have A0:Hid (B4 W w.heap.size (.slice p.s1 d.codes.length p.c1) (.slice p.s2 d.cores.length p.c2) (.slice p.s3 d.mem.length p.c3) (.slice p.s4 d.tr.length p.c4)):=bx
 have E0:Hid (Exc lo hi w W):=exc_of kb
 have B0:Hid (∀ k,k < w.heap.size→(∀ a∈p.as d,a.block≠k)→W.heap[k]? =w.heap[k]?):=fun k hk _=>kb.block k hk
 have S0:Hid (MaSh W lo hi p d):=H.out.keep (Keep.of_below kb hB)
 clear bx kb
 refine (C1.out W S0.out).mono ?_
 rintro e w1 ⟨rfl,hw1⟩
 have S1:Hid (MaSh w1 lo hi p d):=hw1.mash (fun a ha=>(S0.out.c.int a ha).1) S0.out
 have X1:=hw1.exc (lo:=lo) (hi:=hi) (fun a ha=>I.out a (by unfold MP.as;simp [ha]))
 have E1:Hid (Exc lo hi w w1):=E0.out.trans X1
 have B1:Hid (∀ k,k < w.heap.size→(∀ a∈p.as d,a.block≠k)→w1.heap[k]? =w.heap[k]?):=fun k hk hc=>(hw1.blk k (fun a ha=>hc a (by unfold MP.as;simp [ha]))).trans (B0.out k hk hc)
 have A1:Hid (B4 w1 w.heap.size (.slice p.s1 d.codes.length p.c1) (.slice p.s2 d.cores.length p.c2) (.slice p.s3 d.mem.length p.c3) (.slice p.s4 d.tr.length p.c4)):=A0.out.exc X1 (.inr hB)
 have M1:Hid (MarkedA w1 (gAs p.s1 TC.length p.RC 0) q):=hw1.at'
 obtain ⟨p0,p1,p2,p3,p4⟩:=A1.out
 clear X1 hw1
 go_wp2_with fail
 refine (C2.out w1 S1.out).mono ?_
 rintro e w2 ⟨rfl,hw2⟩
 have S2:Hid (MaSh w2 lo hi p d):=hw2.mash (fun a ha=>(S1.out.k.int a ha).1) S1.out
 have X2:=hw2.exc (lo:=lo) (hi:=hi) (fun a ha=>I.out a (by unfold MP.as;simp [ha]))
 have E2:Hid (Exc lo hi w w2):=E1.out.trans X2
 have B2:Hid (∀ k,k < w.heap.size→(∀ a∈p.as d,a.block≠k)→w2.heap[k]? =w.heap[k]?):=fun k hk hc=>(hw2.blk k (fun a ha=>hc a (by unfold MP.as;simp [ha]))).trans (B1.out k hk hc)
 have A2:Hid (B4 w2 w.heap.size (.slice p.s1 d.codes.length p.c1) (.slice p.s2 d.cores.length p.c2) (.slice p.s3 d.mem.length p.c3) (.slice p.s4 d.tr.length p.c4)):=A1.out.exc X2 (.inr hB)
 have M2:Hid (MarkedA w2 (gAs p.s1 TC.length p.RC 0++gAs p.s2 TK.length p.RK 0) q):=(M1.out.far hw2 (fun a ha=>(D1.out a ha).1)).app (by rw [L1.out];exact hw2.at')
 clear p0 p1 p2 p3 p4
 obtain ⟨p0,p1,p2,p3,p4⟩:=A2.out
 clear X2 hw2
 have e2:=E2.out.size
 go_wp2_with fail
 refine (C3.out w2 S2.out (by omega)).mono ?_
 rintro e w3 ⟨rfl,V,kv,hw3⟩
 have SV:=S2.out.keep (Keep.of_below kv (show hi≤w2.heap.size by omega))
 have S3:Hid (MaSh w3 lo hi p d):=hw3.mash (fun a ha=>(SV.m.int a ha).1) SV
 have X3:=(exc_of kv (lo:=lo) (hi:=hi)).trans (hw3.exc (lo:=lo) (hi:=hi) (fun a ha=>I.out a (by unfold MP.as;simp [ha])))
 have E3:Hid (Exc lo hi w w3):=E2.out.trans X3
 have B3:Hid (∀ k,k < w.heap.size→(∀ a∈p.as d,a.block≠k)→w3.heap[k]? =w.heap[k]?):=fun k hk hc=>(hw3.blk k (fun a ha=>hc a (by unfold MP.as;simp [ha]))).trans ((kv.block k (by have:=E2.out.size;omega)).trans (B2.out k hk hc))
 have A3:Hid (B4 w3 w.heap.size (.slice p.s1 d.codes.length p.c1) (.slice p.s2 d.cores.length p.c2) (.slice p.s3 d.mem.length p.c3) (.slice p.s4 d.tr.length p.c4)):=A2.out.exc X3 (.inr hB)
 have M3:Hid (MarkedA w3 ((gAs p.s1 TC.length p.RC 0++gAs p.s2 TK.length p.RK 0)++mAs p.S) q):=by
  refine ((M2.out.below kv (fun a ha=>?_)).far hw3 (fun a ha=>?_)).app ?_
  ·have:=I.out a (by unfold MP.as;rcases List.mem_append.1 ha with ha | ha<;>simp [ha])
   omega
  ·rcases List.mem_append.1 ha with ha | ha
   ·exact (D1.out a ha).2.1
   ·exact (D2.out a ha).1
  ·have q:=hw3.at'
   simp only [List.length_append,L1.out,L2.out]
   push_cast
   rw [← Int.add_assoc]
   exact q
 clear p0 p1 p2 p3 p4
 obtain ⟨p0,p1,p2,p3,p4⟩:=A3.out
 clear X3 hw3 SV kv
 go_wp2_with fail
 refine (markNt_any ⟨p.s4,d.tr.length,p.c4⟩ lo hi (q+N1+N2+N3) w3 S3.out.to S3.out.t (by show d.tr.length * 2≤_;omega) (by omega) (by omega)).mono ?_
 rintro e w4 ⟨rfl,hw4⟩
 have S4:Hid (MaSh w4 lo hi p d):=hw4.mash (fun a ha=>(S3.out.t a ha).1) S3.out
 have X4:=hw4.exc (lo:=lo) (hi:=hi) (fun a ha=>I.out a (by unfold MP.as;simp only [List.mem_append];exact .inr (.inr (.inr ha))))
 have E4:Hid (Exc lo hi w w4):=E3.out.trans X4
 have B4':Hid (∀ k,k < w.heap.size→(∀ a∈p.as d,a.block≠k)→w4.heap[k]? =w.heap[k]?):=fun k hk hc=>(hw4.blk k (fun a ha=>hc a (by unfold MP.as;simp only [List.mem_append];exact .inr (.inr (.inr ha))))).trans (B3.out k hk hc)
 have M4:Hid (MarkedA w4 (p.as d) q):=by
  have m:=(M3.out.far hw4 (fun a ha=>by
   rcases List.mem_append.1 ha with ha | ha
   ·rcases List.mem_append.1 ha with ha | ha
    ·exact (D1.out a ha).2.2
    ·exact (D2.out a ha).2
   ·exact D3.out a ha)).app (B:=vAs (p.x4 d)) (by
    have q:=hw4.at'
    simp only [List.length_append,L1.out,L2.out,L3.out]
    push_cast
    rw [← Int.add_assoc,← Int.add_assoc]
    exact q)
  show MarkedA w4 (gAs p.s1 TC.length p.RC 0++(gAs p.s2 TK.length p.RK 0++(mAs p.S++vAs (p.x4 d)))) q
  simpa [List.append_assoc] using m
 clear X4 hw4
 go_wp2
 go_ret
 exact ⟨by rw [← LN.out];rfl,⟨S4.out,M4.out⟩,E4.out,B4'.out⟩
set_option maxHeartbeats 2000000 in
theorem heldMachine_any (p : MP) (d : MD) (lo hi : Nat) (q : Int) (w : World) (h : MaMk w lo hi p d q) (hB : hi ≤ w.heap.size) (hf : MaFits d) (hq : 0 ≤ q) (hq' : q ≤ 1000000000000) :
  Calls Tryz.prog 11 #[.agg #[.slice p.s1 d.codes.length p.c1,.slice p.s2 d.cores.length p.c2,.slice p.s3 d.mem.length p.c3,.slice p.s4 d.tr.length p.c4],.int .i64 q] w fun e w'=>e=.returned (.int .i64 (q+p.len d))∧Below w.heap.size w w':=by
 have F1:d.codes.length+szC d.codes≤1048576:=hf.c
 have F2:d.cores.length+szK d.cores≤2000000:=by have:=hf.k;omega
 have F3:d.mem.length+szR d.mem≤2000000:=hf.m
 have F4:d.tr.length≤2000000:=hf.t
 obtain ⟨N1,h1,b1⟩:∃ n,(gAs p.s1 TC.length p.RC 0).length=n∧n≤6000000:=⟨_,rfl,by have:=h.sh.sc;omega⟩
 obtain ⟨N2,h2,b2⟩:∃ n,(gAs p.s2 TK.length p.RK 0).length=n∧n≤2000000 * 4:=⟨_,rfl,by have:=h.sh.sk;omega⟩
 obtain ⟨N3,h3,b3⟩:∃ n,(mAs p.S).length=n∧n≤2000000:=⟨_,rfl,by have:=h.sh.sm;omega⟩
 have LN:Hid (q+(N1:Int)+N2+N3+((d.tr.length * 2:Nat):Int)=q+p.len d):=by
  have:=h.sh.sc;have:=h.sh.sk;have:=h.sh.sm
  show _=_;unfold MP.len;push_cast;omega
 have C1:Hid (∀ W,MaSh W lo hi p d→MarkedA W (gAs p.s1 TC.length p.RC 0) q→Calls Tryz.prog 41 #[.slice p.s1 d.codes.length p.c1,.int .i64 q] W fun e w'=>e=.returned (.int .i64 (q+N1))∧w'=W):=fun W hW hm=>by
  have C:=heldCs_any p.s1 p.RC p.c1 lo hi q W hW.c hm (by have:=hW.nc;omega) (by omega) hq (by omega)
  rw [hW.nc,h1] at C
  exact C
 have C2:Hid (∀ W,MaSh W lo hi p d→MarkedA W (gAs p.s2 TK.length p.RK 0) (q+N1)→Calls Tryz.prog 42 #[.slice p.s2 d.cores.length p.c2,.int .i64 (q+N1)] W fun e w'=>e=.returned (.int .i64 (q+N1+N2))∧w'=W):=fun W hW hm=>by
  have C:=heldKs_any p.s2 p.RK p.c2 lo hi (q+N1) W hW.k hm (by have:=hW.nk;omega) (by omega) (fun r hr x e hx=>by have:=hW.vk r hr x e hx;omega) (by omega) (by omega)
  rw [hW.nk,h2] at C
  exact C
 have C3:Hid (∀ W,MaSh W lo hi p d→MarkedA W (mAs p.S) (q+N1+N2)→hi≤W.heap.size→Calls Tryz.prog 43 #[.agg #[.slice p.s3 d.mem.length p.c3],.int .i64 (q+N1+N2)] W fun e w'=>e=.returned (.int .i64 (q+N1+N2+N3))∧Below W.heap.size W w'):=fun W hW hm hs=>by
  have C:=heldMemory_sh p.s3 p.S d.mem.length p.c3 lo hi (q+N1+N2) W hW.m hm hs hW.nm (by omega) (by omega) (by omega) (by omega)
  rw [h3] at C
  exact C
 have H:Hid (MaMk w lo hi p d q):=h
 clear h hf
 go_enter Tryz.func11,Tryz.ntmps11
 go_wp2_with fail
 obtain ⟨W,hW,bx,kb,zb⟩:=B4.new w (.slice p.s1 d.codes.length p.c1) (.slice p.s2 d.cores.length p.c2) (.slice p.s3 d.mem.length p.c3) (.slice p.s4 d.tr.length p.c4) 38
 rw [hW]
 clear hW
 have S0:MaMk W lo hi p d q:=H.out.keep (Keep.of_below kb hB)
 have K0:Hid (Below w.heap.size w W):=kb
 obtain ⟨p0,p1,p2,p3,p4⟩:=bx
 clear kb
 have SH:Hid (MaSh W lo hi p d):=S0.sh
 have m1:MarkedA W (gAs p.s1 TC.length p.RC 0) q:=MarkedA.left (B:=gAs p.s2 TK.length p.RK 0++(mAs p.S++vAs (p.x4 d))) S0.m
 have r1:MarkedA W (gAs p.s2 TK.length p.RK 0++(mAs p.S++vAs (p.x4 d))) (q+(gAs p.s1 TC.length p.RC 0).length):=MarkedA.right S0.m
 have M1:Hid (MarkedA W (gAs p.s1 TC.length p.RC 0) q):=m1
 have M2:Hid (MarkedA W (gAs p.s2 TK.length p.RK 0) (q+(gAs p.s1 TC.length p.RC 0).length)):=r1.left
 have M3:Hid (MarkedA W (mAs p.S) (q+(gAs p.s1 TC.length p.RC 0).length+(gAs p.s2 TK.length p.RK 0).length)):=r1.right.left
 have M4:Hid (MarkedA W (vAs (p.x4 d)) (q+(gAs p.s1 TC.length p.RC 0).length+(gAs p.s2 TK.length p.RK 0).length+(mAs p.S).length)):=r1.right.right
 rw [h1] at M2 M3 M4
 rw [h2] at M3 M4
 rw [h3] at M4
 clear S0 m1 r1 h1 h2 h3
 have n1:¬ q+(N1:Int) < 0:=by omega
 have n2:¬ q+(N1:Int)+(N2:Int) < 0:=by omega
 have n3:¬ q+(N1:Int)+(N2:Int)+(N3:Int) < 0:=by omega
 have n4:¬ q+(N1:Int)+(N2:Int)+(N3:Int)+((d.tr.length * 2:Nat):Int) < 0:=by omega
 refine (C1.out W SH.out M1.out).mono ?_
 rintro e w1 ⟨rfl,hw1⟩
 subst w1
 go_wp2_with fail
 refine (C2.out W SH.out M2.out).mono ?_
 rintro e w1 ⟨rfl,hw1⟩
 subst w1
 go_wp2_with fail
 refine (C3.out W SH.out M3.out (by omega)).mono ?_
 rintro e w3 ⟨rfl,hb3⟩
 have c4:=(hb3.cell (p:=⟨w.heap.size,3,none⟩) p0).trans p4
 have z3:=hb3.size
 have zz:w.heap.size < w3.heap.size:=by omega
 have K3:Hid (Below w.heap.size w w3):=K0.out.trans (hb3.mono (by omega))
 have N4:Hid (MarkedA w3 (vAs (p.x4 d)) (q+N1+N2+N3)):=M4.out.below hb3 (fun a ha=>by have:=(SH.out.t a ha).2.2.2;omega)
 have TO:=SH.out.to
 have HTO:Hid (d.tr.length * 2=0∨Somewhere p.s4):=TO
 clear hb3 p1 p2 p3 p4 TO
 go_wp2_with fail
 refine (heldNt_any ⟨p.s4,d.tr.length,p.c4⟩ (q+N1+N2+N3) w3 HTO.out N4.out (by show d.tr.length * 2≤_;omega) (by omega) (by omega)).mono ?_
 rintro e w4 ⟨rfl,hw4⟩
 subst w4
 go_wp2
 go_ret
 exact ⟨by rw [← LN.out];rfl,K3.out⟩
end
end Go.Proofs.YtlbeploopclegaaGreat
