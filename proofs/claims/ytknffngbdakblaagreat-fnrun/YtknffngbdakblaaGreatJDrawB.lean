/- l1DrawBody: a body is drawn into new memory; the cursor's own block alone is turned. Conditions: the cursor and its bytes lie in memory as the reading says; 1 to 256 channels. -/
import Derived.Test.YtknffngbdakblaaGreatJG00
import Derived.Test.YtknffngbdakblaaGreatJG16
import Derived.Test.YtknffngbdakblaaGreatJDraw2
import Derived.Test.YtknffngbdakblaaGreatJG01
import Derived.Test.YtknffngbdakblaaGreatJG18
namespace Go.Proofs.YtknffngbdakblaaGreat
set_option linter.unusedSimpArgs false
set_option linter.unusedVariables false
set_option maxRecDepth 100000
open Go.RowKit Go.Deep
theorem info25:∃ i,Tryz.prog.info? 85=some i∧i.zero=some (.agg #[.int .i64 0,.int .i64 0,.int .i64 0,.int .i64 0,.int .i64 0])∧i.size=5∧i.bytes=40:=⟨_,rfl,rfl,rfl,rfl⟩
theorem allInt_nil:AllInt []:=fun u hu=>by cases hu
theorem allInt_cons (z:Int) {xs:List Value} (h:AllInt xs):AllInt (.int .i64 z::xs):=by
 intro u hu
 rcases List.mem_cons.1 hu with h1 | h1
 ·exact ⟨z,h1⟩
 ·exact h u h1
theorem own_lit {w:World} {base:Nat} (C:Array Value) (n:Nat) (hb:base≤w.heap.size) (hn:n≤1000) (hC:C.size=n * 5) (hI:AllInt C.toList):OwnI (w.alloc (.cells C 85)) base (.slice (some ⟨w.heap.size,0,none⟩) n n) n:=
 ⟨_,World.ownsRow_lit w C n hb (by unfold maxLen;omega) hC,hI⟩
theorem new5 (w:World) (z0 z1 z2 z3 z4:Int):∀ j u,[Value.int .i64 z0,.int .i64 z1,.int .i64 z2,.int .i64 z3,.int .i64 z4][j]? =some u→(w.alloc (.cells #[.int .i64 z0,.int .i64 z1,.int .i64 z2,.int .i64 z3,.int .i64 z4] 85)).cell? (Addr.add ⟨w.heap.size,0,none⟩ j)=some u:=by
 intro j u h
 match j,h with
 | 0,h=>simpa [Addr.add,go_sem] using h
 | 1,h=>simpa [Addr.add,go_sem] using h
 | 2,h=>simpa [Addr.add,go_sem] using h
 | 3,h=>simpa [Addr.add,go_sem] using h
 | 4,h=>simpa [Addr.add,go_sem] using h
theorem app_step {ops : Array Oper} {rest : List Oper} {o : Oper} {a : Act} {Q : Exit → Act → World → Prop} (hgd : o.guard = none) (s x : Operand) (ho : o.op = .call { callee := .builtin .append, args := #[s, x], argTypes := #[62, 62] })
  (w:World) (z0 z1 z2 z3 z4:Int) (base n:Nat) (v:Value) (hs:a.eval s=v) (hown:OwnI w base v n) (hx:a.eval x=.slice (some ⟨w.heap.size,0,none⟩) 1 1) (hn:n≤1000) (hbase:base≤w.heap.size)
  (h:∀ g cap w',OwnI w' base (.slice (some ⟨g,0,none⟩) (n+1) cap) (n+1)→(w.alloc (.cells #[.int .i64 z0,.int .i64 z1,.int .i64 z2,.int .i64 z3,.int .i64 z4] 85)).grownBy w' v.ownBlock→(∀ k,v.ownBlock=some k→base≤k)→wpList Tryz.prog ops Q rest (a.put o.dst (.slice (some ⟨g,0,none⟩) (n+1) cap)) w'):
  wpList Tryz.prog ops Q (o::rest) a (w.alloc (.cells #[.int .i64 z0,.int .i64 z1,.int .i64 z2,.int .i64 z3,.int .i64 z4] 85)):=by
 obtain ⟨i0,hi,hz0,hz1,hz2⟩:=info25
 obtain ⟨xs,h1,h2⟩:=hown
 have h1':=own_block (w':=w.alloc (.cells #[.int .i64 z0,.int .i64 z1,.int .i64 z2,.int .i64 z3,.int .i64 z4] 85)) h1 (fun k _ hk=>Below.heap_alloc _ _ _ hk)
 refine wpList_append_lies _ hgd s x 62 ho base 85 i0 _ 5 40 Tryz.underlying62 hi hz0 hz1 hz2 rfl (by decide) v n xs hs h1' ⟨w.heap.size,0,none⟩ 1 1 [.int .i64 z0,.int .i64 z1,.int .i64 z2,.int .i64 z3,.int .i64 z4] hx rfl (new5 w z0 z1 z2 z3 z4) (fun u hu=>by simp at hu;rcases hu with rfl | rfl | rfl | rfl | rfl<;>rfl) (by decide) (by unfold maxLen;omega) (by omega) (by simp;omega) _ rfl ?_
 intro g cap w' q1 q2 q3 q4
 exact h g cap w' ⟨_,q1,h2.append (allInt_cons _ (allInt_cons _ (allInt_cons _ (allInt_cons _ (allInt_cons _ allInt_nil)))))⟩ q2 (own_row h1)
set_option maxRecDepth 100000 in
set_option maxHeartbeats 4000000 in
theorem drawBody_cb (p : Nat) (s : Option Addr) (n c : Nat) (ch : Int) (w : World) (h : CB w p s n c) (hc0 : 0 < ch) (hc : ch ≤ 256) :
  Calls Tryz.prog 82 #[.pointer (some ⟨p,0,none⟩),.int .i64 ch] w fun e w'=>∃ (v:Value) (m:Nat),e=.returned v∧OwnI w' w.heap.size v m∧1≤m∧m≤12∧CB w' p s n c∧But p w w':=by
 have hp:=h.lt
 have H0:Hid (CB w p s n c):=h
 clear h
 go_enter Tryz.func82,Tryz.ntmps82
 go_wp2_with fail
 refine (below_cb p s n c ch w H0.out hc0 hc).mono ?_
 rintro e w1 ⟨x,rfl,x0,x1,hc1,hb1⟩
 go_wp2_with fail
 refine (below_cb p s n c ch w1 hc1 hc0 hc).mono ?_
 rintro e w2 ⟨y,rfl,y0,y1,hc2,hb2⟩
 go_wp2_with fail
 refine (below_cb p s n c 5 w2 hc2 (by omega) (by omega)).mono ?_
 rintro e w3 ⟨t,rfl,t0,t1,hc3,hb3⟩
 have H3:Hid (CB w3 p s n c):=hc3
 have B3:Hid (But p w w3):=(hb1.trans hb2).trans hb3
 have hz3:w.heap.size≤w3.heap.size:=B3.out.size
 clear hc1 hb1 hc2 hb2 hc3 hb3
 have ht:t=0∨t=1∨t=2∨t=3∨t=4:=by omega
 clear t0 t1
 rcases ht with rfl | rfl | rfl | rfl | rfl
 ·go_wp2
  go_ret
  exact ⟨_,7,rfl,own_lit _ 7 hz3 (by omega) rfl (by repeat (first | exact allInt_nil | refine allInt_cons _ ?_)),by omega,by omega,H3.out.alloc _,B3.out.alloc _⟩
 ·go_wp2
  go_ret
  exact ⟨_,5,rfl,own_lit _ 5 hz3 (by omega) rfl (by repeat (first | exact allInt_nil | refine allInt_cons _ ?_)),by omega,by omega,H3.out.alloc _,B3.out.alloc _⟩
 ·go_wp2
  go_ret
  exact ⟨_,5,rfl,own_lit _ 5 hz3 (by omega) rfl (by repeat (first | exact allInt_nil | refine allInt_cons _ ?_)),by omega,by omega,H3.out.alloc _,B3.out.alloc _⟩
 ·go_wp2
  go_ret
  exact ⟨_,6,rfl,own_lit _ 6 hz3 (by omega) rfl (by repeat (first | exact allInt_nil | refine allInt_cons _ ?_)),by omega,by omega,H3.out.alloc _,B3.out.alloc _⟩
 ·go_wp2_with fail
  refine (below_cb p s n c 9 w3 H3.out (by omega) (by omega)).mono ?_
  rintro e w4 ⟨q,rfl,q0,q1,hc4,hb4⟩
  have H4:Hid (CB w4 p s n c):=hc4
  have B4:Hid (But p w w4):=B3.out.trans hb4
  have hz4:w.heap.size≤w4.heap.size:=B4.out.size
  clear hc4 hb4
  go_wp2
  go_loopw [8,9] (fun v i wr=>∃ j:Nat,(j:Int)≤2+q∧i=.int .i64 j∧OwnI wr w.heap.size v j∧CB wr p s n c∧But p w wr) (fun _ i _=>12 - (intOf i).toNat)
  case atStart=>exact ⟨0,by omega,rfl,own_lit #[] 0 hz4 (by omega) rfl allInt_nil,H4.out.alloc _,B4.out.alloc _⟩
  case round=>
   obtain ⟨j,hj,rfl,ho,hcb,hbt⟩:=hrel
   have HO:Hid (OwnI wr w.heap.size u8 j):=ho
   have HC:Hid (CB wr p s n c):=hcb
   have HT:Hid (But p w wr):=hbt
   clear ho hcb hbt
   have hzr:=HT.out.size
   by_cases hlt:(j:Int) < 2+q
   ·go_wp2_with fail
    refine (drawIns_cb p s n c (2+q+1) ch wr HC.out (by omega) (by omega) (by omega) (by omega)).mono ?_
    rintro e w5 ⟨o,r,a,b,m,rfl,hc5,hb5⟩
    have HO5:Hid (OwnI w5 w.heap.size u8 j):=HO.out.but hb5 hp
    have HC5:Hid (CB w5 p s n c):=hc5
    have HT5:Hid (But p w w5):=HT.out.trans hb5
    have hz5:=HT5.out.size
    clear hc5 hb5 HO HC HT
    go_wp2_with (at_builtin;refine app_step rfl _ _ rfl w5 o r a b m w.heap.size j u8 rfl HO5.out rfl (by omega) hz5 ?_;intro g cap w6 ho6 hg6 hr6)
    go_roundw
    case rel=>
     exact ⟨j+1,by omega,by go_num,ho6,(HC5.out.alloc _).grown hg6 (fun k hk=>by have:=hr6 k hk;omega),(HT5.out.alloc _).grown hg6 hr6⟩
    case measure=>simp [intOf];omega
   ·have hjq:(j:Int)=2+q:=by omega
    have kl:Below wr.heap.size wr (wr.alloc (.cells #[.int .i64 13,.int .i64 11] 3)):=(Below.refl _ _).alloc (Nat.le_refl _) _
    have KL:Hid (Below wr.heap.size wr (wr.alloc (.cells #[.int .i64 13,.int .i64 11] 3))):=kl
    have HJ:Hid ((j:Int)=2+q):=hjq
    clear kl hjq
    go_wp2_with fail
    refine (pick_cb p s n c wr.heap.size 2 [13,11] _ (HC.out.keep KL.out) rfl (by simp) (by simp) (by simp) (by omega) (fun i hi=>by match i,hi with | 0,_=>simp [go_sem] | 1,_=>simp [go_sem])).mono ?_
    rintro e w5 ⟨z,rfl,-,hc5,hb5⟩
    have HO5:Hid (OwnI w5 w.heap.size u8 j):=(HO.out.keep KL.out).but hb5 hp
    have HC5:Hid (CB w5 p s n c):=hc5
    have HT5:Hid (But p w w5):=(HT.out.trans (But.of_below KL.out)).trans hb5
    have hz5:=HT5.out.size
    clear hc5 hb5 HO HC HT KL
    go_wp2_with (at_builtin;refine app_step rfl _ _ rfl w5 z 0 0 0 0 w.heap.size j u8 rfl HO5.out rfl (by omega) hz5 ?_;intro g cap w6 ho6 hg6 hr6)
    go_ret
    have hj2:=HJ.out
    exact ⟨_,j+1,rfl,ho6,by omega,by omega,(HC5.out.alloc _).grown hg6 (fun k hk=>by have:=hr6 k hk;omega),(HT5.out.alloc _).grown hg6 hr6⟩
end Go.Proofs.YtknffngbdakblaaGreat
