/- A row of rooms is drawn. Conditions: the cursor lies in memory. BodyOk of the program and of the specification, at every list of at most 1048576 places: each answers as the plain law says; and how the laws hold two such lists against each other. BodyOk of the specification, at every list of at most 1048576 places. BodyOk of the program, at every list of at most 1048576 places. -/
import Derived.Test.YtkhjhibigldcgaaLG00
import Derived.Test.YtkhjhibigldcgaaLDraw1
import Derived.Test.YtkhjhibigldcgaaLG08
import Derived.Test.YtkhjhibigldcgaaLDrawM
import Derived.Test.YtkhjhibigldcgaaLG01
import Derived.Test.YtkhjhibigldcgaaLSpecIns
namespace Go.Proofs.Ytkhjhibigldcgaa
section
set_option linter.unusedSimpArgs false
set_option linter.unusedVariables false
set_option maxRecDepth 100000
open Go.RowKit
theorem hid2 {p:Prop} (h:p):Hid p:=h
theorem but_low {p:Nat} {w a b:World} (h:But p w a) (hb:Below w.heap.size a b):But p w b:=⟨hb.os.trans h.os,hb.tape.trans h.tape,hb.output.trans h.output,Nat.le_trans h.size hb.size,fun k hk hp=>(hb.block k hk).trans (h.block k hk hp)⟩
structure DC (w wr:World) (p:Nat) (s:Option Addr) (n c:Nat) (v:Value) (l:List Int):Prop where
 o:OwnN wr w.heap.size v l
 b:CBx158 wr p s n c
 t:But p w wr
theorem DC.but {w wr w2:World} {p n c:Nat} {s:Option Addr} {v:Value} {l:List Int} (h:DC w wr p s n c v l) (hp:p < w.heap.size) (hc:CBx158 w2 p s n c) (hb:But p wr w2):DC w w2 p s n c v l:=⟨h.o.but hb hp,hc,h.t.trans hb⟩
theorem DC.low {w wr w2:World} {p n c:Nat} {s:Option Addr} {v v':Value} {l l':List Int} (h:DC w wr p s n c v l) (hp:p < w.heap.size) (ho:OwnN w2 w.heap.size v' l') (hb:Below w.heap.size wr w2):DC w w2 p s n c v' l':=⟨ho,h.b.keepB hb hp,but_low h.t hb⟩
set_option maxHeartbeats 4000000 in
theorem drawCaps_cb (p : Nat) (s : Option Addr) (n c : Nat) (w : World) (h : CBx158 w p s n c) :
  Calls Try.prog 16 #[.pointer (some ⟨p,0,none⟩)] w fun e w'=>∃ v l,e=.returned v∧l.length≤9∧DC w w' p s n c v l:=by
 have hp:=h.lt
 have k0:Below w.heap.size w (w.alloc (.cells #[] 3)):=(Below.refl _ _).alloc (Nat.le_refl _) _
 have D0:=hid2 (show DC w (w.alloc (.cells #[] 3)) p s n c (.slice (some ⟨w.heap.size,0,none⟩) 0 0) [] from ⟨ownN_empty (Nat.le_refl _),h.keepB k0 hp,but_low (But.refl _ _) k0⟩)
 clear h k0
 go_enter Try.func16,Try.ntmps16
 go_wp2
 go_loopw [3,4] (fun v i wr=>∃ (k:Nat) (l:List Int),k≤3∧i=.int .i64 k∧l.length=k∧DC w wr p s n c v l) (fun _ i _=>3 - (intOf i).toNat)
 case atStart=>exact ⟨0,[],by omega,rfl,rfl,D0.out⟩
 case round=>
  obtain ⟨k,l,hk,rfl,hl,hd⟩:=hrel
  obtain ⟨s3,c3,rfl⟩:=hd.o.sl
  have HD:=hid2 hd
  have HL:=hid2 hl
  clear hd hl D0
  have hwr:w.heap.size≤wr.heap.size:=HD.out.t.size
  go_wp2_with fail
  refine (below_cb p s n c 3 wr HD.out.b (by omega) (by omega)).mono ?_
  rintro e w2 ⟨x,rfl,x0,x1,hc2,hb2⟩
  have HD2:=hid2 (HD.out.but hp hc2 hb2)
  clear hc2 hb2 HD
  have hw2:w.heap.size≤w2.heap.size:=HD2.out.t.size
  by_cases hlt:(k:Int) < 1+x
  ·go_wp2_with fail
   refine (below_cb p s n c 4 w2 HD2.out.b (by omega) (by omega)).mono ?_
   rintro e w3 ⟨y,rfl,y0,y1,hc3,hb3⟩
   have HD3:=hid2 (HD2.out.but hp hc3 hb3)
   clear hc3 hb3 HD2
   have hw3:w.heap.size≤w3.heap.size:=HD3.out.t.size
   have HLN:Hid (l.length≤1099511627776):=by show _≤_;have:=HL.out;omega
   go_wp2_with (at_builtin;refine app_int rfl _ _ rfl w3 (1+y) w.heap.size (.slice s3 l.length c3) l rfl HD3.out.o rfl HLN.out hw3 ?_;intro g4 c4 w4 ho4 hb4 hz4;have HD4:=hid2 (HD3.out.low hp ho4 hb4);clear ho4 hb4 hz4)
   go_roundw
   case rel=>exact ⟨k+1,l++[1+y],by omega,by go_num,by have:=HL.out;simp;omega,HD4.out⟩
   case measure=>simp [intOf];omega
  ·have hk1:1≤k:=by omega
   go_wp2_with fail
   refine (below_cb p s n c 15 w2 HD2.out.b (by omega) (by omega)).mono ?_
   rintro e w3 ⟨y,rfl,y0,y1,hc3,hb3⟩
   have HD3:=hid2 (HD2.out.but hp hc3 hb3)
   clear hc3 hb3 HD2
   have hw3:w.heap.size≤w3.heap.size:=HD3.out.t.size
   by_cases h0:y=0
   ·subst h0
    have HLN:Hid (l.length+[4,4,(4:Int)].length≤1099511627776):=by show _≤_;have:=HL.out;simp;omega
    go_wp2_with (at_builtin;refine app_row rfl _ _ rfl (w3.alloc (.cells #[.int .i64 4,.int .i64 4,.int .i64 4] 3)) w.heap.size (.slice s3 l.length c3) l rfl (HD3.out.o.alloc _) w3.heap.size 0 3 [4,4,4] rfl (fun i hi=>by match i,hi with | 0,_=>simp [go_sem] | 1,_=>simp [go_sem] | 2,_=>simp [go_sem]) (by simp) HLN.out (by simp;omega) ?_;intro g4 c4 w4 ho4 hb4 hz4 hy4;have HD4:=hid2 (HD3.out.low hp ho4 (((Below.refl _ _).alloc hw3 _).trans hb4));clear ho4 hb4 hz4 hy4)
    go_ret
    exact ⟨_,_,rfl,by have:=HL.out;simp;omega,HD4.out⟩
   ·have e0:(y==0)=false:=by simpa using h0
    by_cases h1:y=1
    ·subst h1
     obtain ⟨g,cap,ev,hg1,hg2⟩:=World.ownsRow.form HD3.out.o (by have:=HL.out;omega)
     injection ev with e1 e2 e3
     subst e1 e3
     have ka:Below w3.heap.size w3 (w3.alloc (.cells #[.int .i64 0,.int .i64 5] 3)):=(Below.refl _ _).alloc (Nat.le_refl _) _
     have PK:=pick_cb p s n c w3.heap.size 2 [0,5] (w3.alloc (.cells #[.int .i64 0,.int .i64 5] 3)) (HD3.out.b.alloc _) rfl (by simp) (by simp) (by simp) (by omega) (fun i hi=>by match i,hi with | 0,_=>simp [go_sem] | 1,_=>simp [go_sem])
     have HDa:=hid2 (show DC w (w3.alloc (.cells #[.int .i64 0,.int .i64 5] 3)) p s n c (.slice (some ⟨g,0,none⟩) l.length c3) l from ⟨HD3.out.o.alloc _,HD3.out.b.alloc _,but_low HD3.out.t (ka.mono hw3)⟩)
     clear ka
     have hll:0 < l.length:=by have:=HL.out;omega
     go_wp2_with (go_at_call 33;refine PK.mono ?_;rintro e w4 ⟨z,rfl,-,hc4,hb4⟩;have HD4:=hid2 (HDa.out.but hp hc4 hb4);clear hc4 hb4;have u0:=World.ownsRow.cellAt HD4.out.o 0 (by omega);have uf:=World.ownsRow.frozenAt HD4.out.o 0;obtain ⟨u,hu⟩:∃ u,w4.cell? ⟨g,0,none⟩=some u:=(by rw [u0];exact ⟨_,List.getElem?_eq_getElem (by simp;omega)⟩);clear u0)
     go_ret
     have st:=(World.ownsRow.stored HD4.out.o 0 (.int .i64 z)).1
     refine ⟨_,l.set 0 z,rfl,by have:=HL.out;simp;omega,⟨?_,HD4.out.b.set (by show p < g;omega),?_⟩⟩
     ·show World.ownsRow _ _ _ _ _ (l.set 0 z).length _
      rw [List.length_set,List.map_set]
      exact st
     ·exact but_low HD4.out.t ((Below.refl _ _).setCell (p:=⟨g,0,none⟩) (by show _≤g;omega) _)
    ·have e1:(y==1)=false:=by simpa using h1
     go_wp2
     go_ret
     exact ⟨_,_,rfl,by have:=HL.out;omega,HD3.out⟩
end
section
set_option linter.unusedSimpArgs false
set_option linter.unusedVariables false
set_option maxRecDepth 100000
open Go.RowKit
def insX (x:I5) (pl ch:Int):Bool:=Plain.insB x.o x.r x.a x.b x.n pl ch
def lastB (l:List I5):Bool:=decide ((l.getD (l.length - 1) z5).o=13∨(l.getD (l.length - 1) z5).o=11)
def bodyB (l:List I5) (ch:Int):Bool:=decide (∀ i,i < l.length→insX (l.getD i z5) l.length ch=true)&&(decide (1≤l.length∧l.length≤24)&&(Plain.chansB ch&&lastB l))
theorem body_no {l:List I5} {ch:Int} {k:Nat} (hk:k < l.length) (h:insX (l.getD k z5) l.length ch=false):bodyB l ch=false:=by
 have:decide (∀ i,i < l.length→insX (l.getD i z5) l.length ch=true)=false:=by
  rw [decide_eq_false_iff_not]
  intro hh
  rw [hh k hk] at h
  cases h
 unfold bodyB
 rw [this,Bool.false_and]
theorem body_all {l:List I5} {ch:Int} (h:∀ i,i < l.length→insX (l.getD i z5) l.length ch=true):bodyB l ch=(decide (1≤l.length∧l.length≤24)&&(Plain.chansB ch&&lastB l)):=by
 have:decide (∀ i,i < l.length→insX (l.getD i z5) l.length ch=true)=true:=by
  rw [decide_eq_true_iff];exact h
 unfold bodyB
 rw [this,Bool.true_and]
end
section
set_option linter.unusedSimpArgs false
set_option linter.unusedVariables false
set_option maxRecDepth 100000
open Go.RowKit
theorem body_short {l:List I5} {ch:Int} (h:Plain.inB (l.length:Int) 1 24=false):bodyB l ch=false:=by
 have:decide (1≤l.length∧l.length≤24)=false:=by
  rw [decide_eq_false_iff_not]
  simp [Plain.inB] at h
  omega
 unfold bodyB
 rw [this]
 simp
theorem body_chans {l:List I5} {ch:Int} (h:Plain.inB ch 0 3=false):bodyB l ch=false:=by
 have:Plain.chansB ch=false:=h
 unfold bodyB
 rw [this]
 simp
set_option maxRecDepth 100000 in
set_option maxHeartbeats 1000000 in
theorem specBody_some (g off c B : Nat) (l : List I5) (ch : Int) (w : World) (hg : g < B) (hc : ∀ i, i < l.length → At5 w g (off + i * 5) (l.getD i z5)) (hB : B ≤ w.heap.size) (hl : l.length ≤ 1048576) :
  Calls Try.prog 75 #[.slice (some ⟨g,off,none⟩) l.length c,.int .i64 ch] w fun e w'=>e=.returned (.bool (bodyB l ch))∧Below w.heap.size w w':=by
 have HC:Hid (∀ i,i < l.length→At5 w g (off+i * 5) (l.getD i z5)):=hc
 clear hc
 go_enter Try.func75,Try.ntmps75
 go_wp2
 go_loopw [6] (fun i wr=>∃ k:Nat,k≤l.length∧i=.int .i64 k∧Below w.heap.size w wr∧(∀ i,i < k→insX (l.getD i z5) l.length ch=true)) (fun i _=>l.length - (intOf i).toNat)
 case atStart=>exact ⟨0,Nat.zero_le _,rfl,Below.refl _ _,fun i hi=>absurd hi (Nat.not_lt_zero _)⟩
 case round=>
  obtain ⟨k,hk,rfl,hb,hd⟩:=hrel
  have HB:Hid (Below w.heap.size w wr):=hb
  have HD:Hid (∀ i,i < k→insX (l.getD i z5) l.length ch=true):=hd
  clear hb hd
  by_cases hlt:k < l.length
  ·obtain ⟨f0,f1,f2,f3,f4⟩:=(HC.out k hlt).keep HB.out (by omega)
   cases hv:insX (l.getD k z5) l.length ch
   ·have F:Hid (bodyB l ch=false):=body_no hlt hv
    generalize l.getD k z5=x at f0 f1 f2 f3 f4 hv
    obtain ⟨xo,xr,xa,xb,xn⟩:=x
    have V:Hid (Plain.insB xo xr xa xb xn l.length ch=false):=hv
    clear hv
    have b0:(0:Int)≤(k:Int):=by omega
    have b1:(k:Int) < (l.length:Int):=by omega
    go_wp2_with fail
    refine (specInsOk_any _ _ _ _ _ _ _ _).mono ?_
    rintro e w1 ⟨rfl,hb1⟩
    rw [V.out]
    have hs1:=HB.out.size
    go_wp2
    go_ret
    exact ⟨by rw [F.out];rfl,HB.out.trans (hb1.mono hs1)⟩
   ·have HV:Hid (insX (l.getD k z5) l.length ch=true):=hv
    generalize l.getD k z5=x at f0 f1 f2 f3 f4 hv
    obtain ⟨xo,xr,xa,xb,xn⟩:=x
    have V:Hid (Plain.insB xo xr xa xb xn l.length ch=true):=hv
    clear hv
    have b0:(0:Int)≤(k:Int):=by omega
    have b1:(k:Int) < (l.length:Int):=by omega
    go_wp2_with fail
    refine (specInsOk_any _ _ _ _ _ _ _ _).mono ?_
    rintro e w1 ⟨rfl,hb1⟩
    rw [V.out]
    have hs1:=HB.out.size
    have HB1:Hid (Below wr.heap.size wr w1):=hb1
    clear hb1
    go_wp2
    go_roundw
    case rel=>
     refine ⟨k+1,by omega,by go_num,HB.out.trans (HB1.out.mono hs1),?_⟩
     intro i hi
     by_cases e:i=k
     ·subst e;exact HV.out
     ·exact HD.out i (by omega)
    case measure=>simp [intOf];omega
  ·have:k=l.length:=by omega
   subst this
   cases h1:Plain.inB (l.length:Int) 1 24
   ·have F:Hid (bodyB l ch=false):=body_short h1
    go_wp2_with (go_at_call 21;refine (l1In_any _ _ _ _).mono ?_;rintro e w' ⟨rfl,rfl⟩)
    go_ret
    exact ⟨by rw [F.out];rfl,HB.out⟩
   ·cases h2:Plain.inB ch 0 3
    ·have F:Hid (bodyB l ch=false):=body_chans h2
     go_wp2_with (go_at_call 21;refine (l1In_any _ _ _ _).mono ?_;rintro e w' ⟨rfl,rfl⟩)
     go_ret
     exact ⟨by rw [F.out];rfl,HB.out⟩
    ·have hlen:1≤l.length∧l.length≤24:=by simp [Plain.inB] at h1;omega
     have F:Hid (bodyB l ch=lastB l):=by
      show _=_
      rw [body_all HD.out,decide_eq_true hlen,(show Plain.chansB ch=true from h2)]
      simp
     obtain ⟨f0,-⟩:=(HC.out (l.length - 1) (by omega)).keep HB.out (by omega)
     generalize hx:(l.getD (l.length - 1) z5).o=x at f0
     have FX:Hid (lastB l=decide (x=13∨x=11)):=by show _=_;unfold lastB;rw [hx]
     clear hx
     have b0:(1:Int)≤(l.length:Int):=by omega
     have b1:(l.length:Int) - 1 < (l.length:Int):=by omega
     go_wp2_with (go_at_call 21;refine (l1In_any _ _ _ _).mono ?_;rintro e w' ⟨rfl,rfl⟩)
     all_goals
      go_ret
      refine ⟨ret_bool ?_,HB.out⟩
      rw [F.out,FX.out,Bool.eq_iff_iff]
      simp [*]
theorem specBody_any (s : Option Addr) (c B : Nat) (l : List I5) (ch : Int) (w : World) (h : InsB w B s l) (hB : B ≤ w.heap.size) (hl : l.length ≤ 1048576) :
  Calls Try.prog 75 #[.slice s l.length c,.int .i64 ch] w fun e w'=>e=.returned (.bool (bodyB l ch))∧Below w.heap.size w w':=by
 rcases h with rfl | ⟨g,off,rfl,hg,hc⟩
 ·have h1:Plain.inB ((0:Nat):Int) 1 24=false:=by decide
  have h2:Plain.inB 0 1 24=false:=by decide
  have F:Hid (bodyB [] ch=false):=body_short (l:=[]) h1
  clear h1
  go_enter Try.func75,Try.ntmps75
  go_wp2
  go_loop [6] (fun i=>i=.int .i64 0) (fun _=>0)
  case atStart=>rfl
  case round=>
   subst hrel
   go_wp2_with (go_at_call 21;refine (l1In_any _ _ _ _).mono ?_;rintro e w' ⟨rfl,rfl⟩)
   go_ret
   exact ⟨by rw [F.out];rfl,Below.refl _ _⟩
 ·exact specBody_some g off c B l ch w hg hc hB hl
end
section
set_option linter.unusedSimpArgs false
set_option linter.unusedVariables false
set_option maxRecDepth 100000
open Go.RowKit
end
end Go.Proofs.Ytkhjhibigldcgaa
