/- l1DrawRight: the program that is drawn is right, and is owned with what it has; the cursor's own block alone is turned. Conditions: the cursor and its bytes lie in memory as the reading says. Rows of places that are written over with running numbers. Conditions: at most 2^20 + 1 places. Running numbers read back from a row of places. Conditions: at most 2^20 + 1 places. Rows of rows of places, written over with running numbers. Conditions: the numbers stay below 10^15. Running numbers read back from rows of rows of places. Conditions: the numbers stay below 10^15. Rows of integers that a call has made, written over with running numbers and looked at again. Conditions: at most 2^20 + 1 integers. A program's lists, written over with running numbers and looked at again. Conditions: the numbers stay below 10^15. Rows of a call's own, read as a program's lists. l4DrawRun: a program that is right and a source that it has come to by drawn steps. Conditions: the cursor and its bytes lie in memory as the reading says. -/
import Derived.Test.YtknffngbdakblaaGreatJG00
import Derived.Test.YtknffngbdakblaaGreatJG01
import Derived.Test.YtknffngbdakblaaGreatJDrawBodyR
import Derived.Test.YtknffngbdakblaaGreatJBody
import Derived.Test.YtknffngbdakblaaGreatJG02
import Derived.Test.YtknffngbdakblaaGreatJG16
import Derived.Deep.RegionWith
import Derived.Test.YtknffngbdakblaaGreatJG03
import Derived.Test.YtknffngbdakblaaGreatJG08
import Derived.Test.YtknffngbdakblaaGreatJG09
import Derived.Test.YtknffngbdakblaaGreatJG11
import Derived.Test.YtknffngbdakblaaGreatJG12
namespace Go.Proofs.YtknffngbdakblaaGreat
section
set_option linter.unusedSimpArgs false
set_option linter.unusedVariables false
set_option maxRecDepth 100000
open Go.RowKit Go.Deep
theorem hidR {p:Prop} (h:p):Hid p:=h
theorem OwnN.kp {w w':World} {base p:Nat} {v:Value} {l:List Int} (h:OwnN w base v l) (hb:But p w w') (hp:p < base):OwnN w' base v l:=own_block h (fun k h1 h2=>hb.block k h2 (by omega))
theorem OwnB.kp {w w':World} {base p:Nat} {v:Value} {l:List (List I5)} (h:OwnB w base v l) (hb:But p w w') (hp:p < base):OwnB w' base v l:=h.keep (fun k h1 h2=>hb.block k h2 (by omega))
theorem OwnN.st {w:World} {base g j:Nat} {v u:Value} {l:List Int} (h:OwnN w base v l) (hg:g < base):OwnN (w.setCell ⟨g,j,none⟩ u) base v l:=own_block h (fun k h1 h2=>Below.heap_setCell w ⟨g,j,none⟩ u k (by show k≠g;omega))
theorem OwnB.st {w:World} {base g j:Nat} {v u:Value} {l:List (List I5)} (h:OwnB w base v l) (hg:g < base):OwnB (w.setCell ⟨g,j,none⟩ u) base v l:=h.keep (fun k h1 h2=>Below.heap_setCell w ⟨g,j,none⟩ u k (by show k≠g;omega))
/- another row grew: rows of integers stay -/
theorem OwnN.far' {w w':World} {base:Nat} {v:Value} {l:List Int} {row:Option Nat} (h:OwnN w base v l) (hg:w.grownBy w' row) (hr:∀ k,row=some k→∃ cs f,w.heap[k]? =some (.cells cs 62 f)):OwnN w' base v l:=by
 refine ownKeep h (fun k hk=>hg.block k (World.ownsRow.lt h _ hk).2 (fun e=>?_))
 obtain ⟨cs,f,hc⟩:=hr k e.symm
 obtain ⟨-,q⟩:=h
 rcases q with ⟨rfl,-⟩ | ⟨g',cap',cur,rfl,-,hc',-⟩
 ·cases hk
 ·simp [Value.ownBlock] at hk
  subst hk
  rw [hc] at hc'
  injection hc' with hc'
  injection hc' with _ e2 _
  exact absurd e2 (by decide)
def CapsOk (l:List Int):Prop:=∀ z∈l,1≤z∧z≤4
def BodsOk (l:List (List I5)) (ch:Int):Prop:=∀ b∈l,bodyB b ch=true∧b.length≤12
set_option maxRecDepth 100000 in
set_option maxHeartbeats 4000000 in
theorem drawRight_ok (p : Nat) (s : Option Addr) (n c : Nat) (w : World) (h : CB w p s n c) :
  Calls Tryz.prog 58 #[.pointer (some ⟨p,0,none⟩)] w fun e w'=>∃ (v0 v1:Value) (cs:List Int) (bs:List (List I5)),e=.returned (.agg #[v0,v1])∧OwnN w' w.heap.size v0 cs∧OwnB w' w.heap.size v1 bs∧(1≤cs.length∧cs.length≤3)∧(1≤bs.length∧bs.length≤4)∧CapsOk cs∧BodsOk bs cs.length∧CB w' p s n c∧But p w w':=by
 have hp:=h.lt
 have H0:Hid (Pr w ((w.alloc (.cells #[.slice none 0 0,.slice none 0 0] 27)).alloc (.cells #[.slice none 0 0,.slice none 0 0] 27)) p s n c w.heap.size (.slice none 0 0) (.slice none 0 0)):=pr_new w p n c s _ _ _ _ _ _ h
 clear h
 go_enter Tryz.func58,Tryz.ntmps58
 go_wp2_with fail
 refine (below_cb p s n c 3 _ H0.out.cb (by omega) (by omega)).mono ?_
 rintro e w1 ⟨x,rfl,x0,x1,hc1,hb1⟩
 have H1:Hid (Pr w w1 p s n c w.heap.size (.slice none 0 0) (.slice none 0 0)):=H0.out.step hc1 hb1
 clear hc1 hb1 H0
 go_wp2
 go_loopw [5] (fun i wr=>∃ (l:List Int) (v0:Value),(l.length:Int)≤1+x∧i=.int .i64 l.length∧Pr w wr p s n c w.heap.size v0 (.slice none 0 0)∧OwnN wr (w.heap.size+2) v0 l∧CapsOk l) (fun i _=>4 - (intOf i).toNat)
 case atStart=>exact ⟨[],_,by simp;omega,rfl,H1.out,World.ownsRow_nil _ _ _ _,fun z hz=>by cases hz⟩
 case round=>
  obtain ⟨l,v0,hj,rfl,hpr,how,hco⟩:=hrel
  have HP:=hidR hpr
  have HW:=hidR how
  have HCO:=hidR hco
  clear hpr how hco
  by_cases hlt:(l.length:Int) < 1+x
  ·have c0:=HP.out.c0
   go_wp2_with fail
   first | go_region_law (first | (refine app_capsV (by rfl) _ _ (by rfl) w5 (IntKind.i64.wrap (1+y)) (w.heap.size+2) l v0 (by rfl) ((HW.out.kp (w':=wr.drew) (But.of_below (g:=p) (Below.drew (Below.refl _ _))) (by omega)).kp hb5 (by omega)) (by rfl) (by omega) P5.lt ?_;intro g cap w6 ho6 hg6 hr6;have P6:=(P5.alloc _).grown hg6 hr6;have d2:=P6.c0;have d3:=P6.fP) | (refine step_call 25 #[.pointer (some ⟨p,0,none⟩),.int .i64 4] (by rfl) _ _ (by rfl) (by simp [go_sem]) ent_below ?_;refine (below_cb p s n c 4 wr.drew HP.out.drew.cb (by omega) (by omega)).mono ?_;rintro e w5 ⟨y,rfl,y0,y1,hc5,hb5⟩;have P5:=HP.out.drew.step hc5 hb5;have d0:=P5.c0;have l5:=P5.lt;refine ⟨_,rfl,?_⟩)) | fail
   all_goals
    clear c0 d0 d2 d3
    have H6:=hidR P6
    have O6:=hidR ho6
    have HC6:Hid (CapsOk (l++[IntKind.i64.wrap (1+y)])):=by
     intro z hz
     rcases List.mem_append.1 hz with hz | hz
     ·exact HCO.out z hz
     ·simp at hz
      subst hz
      rw [IntKind.wrap_i64]
      omega
    clear P6 ho6 P5 hb5 hc5
    go_wp2
    go_roundw
    case rel=>exact ⟨l++[IntKind.i64.wrap (1+y)],_,by simp;omega,by simp;try go_num,H6.out.set0 _,by simpa using O6.out.st (by omega),HC6.out⟩
    case measure=>simp [intOf];omega
  ·have hjx:Hid ((l.length:Int)=1+x):=by show _=_;omega
   go_wp2
   go_loopw [6] (fun i wr=>∃ (bs:List (List I5)) (v1:Value),bs.length≤4∧i=.int .i64 bs.length∧Pr w wr p s n c w.heap.size v0 v1∧OwnN wr (w.heap.size+2) v0 l∧OwnB wr (w.heap.size+2) v1 bs∧BodsOk bs (1+x)) (fun i _=>5 - (intOf i).toNat)
   case atStart=>exact ⟨[],_,by simp,rfl,HP.out,HW.out,OwnB.nil _ _,fun b hb=>by cases hb⟩
   case round=>
    obtain ⟨bs,v1,hk,rfl,hpr,hoc,hos,hbo⟩:=hrel
    have P1:=hidR hpr
    have C1:=hidR hoc
    have S1:=hidR hos
    have BO:=hidR hbo
    clear hpr hoc hos hbo HP HW
    go_wp2_with fail
    refine (below_cb p s n c 4 wr P1.out.cb (by omega) (by omega)).mono ?_
    rintro e w2 ⟨y,rfl,y0,y1,hc2,hb2⟩
    have P2:=hidR (P1.out.step hc2 hb2)
    have C2:=hidR (C1.out.kp hb2 (by omega))
    have S2:=hidR (S1.out.kp hb2 (by omega))
    clear hc2 hb2 P1 C1 S1
    by_cases hlt':(bs.length:Int) < 1+y
    ·have c1:=P2.out.c1
     have l2:=P2.out.lt
     go_wp2_with fail
     first | go_region_law (first | (refine app_bodsV (by rfl) _ _ (by rfl) w2.drew w5 (.slice sl L.length cp) L (w.heap.size+2) p bs v1 (by rfl) (S2.out.kp (w':=w2.drew) (But.of_below (g:=p) (Below.drew (Below.refl _ _))) (by omega)) hb5 (by omega) ho5 (by rfl) (by omega) (by simp;omega) ?_;intro g cap w6 ho6 hg6 hr6 hrow6;have P6:=(P5.alloc _).grown hg6 (fun k hk=>(hr6 k hk).1);have d2:=P6.c1;have d3:=P6.fP) | (refine step_call 82 #[.pointer (some ⟨p,0,none⟩),.int .i64 (1+x)] (by rfl) _ _ (by rfl) (by simp [go_sem]) ent_body ?_;refine (drawBody_ok p s n c (1+x) w2.drew P2.out.drew.cb (by omega) (by omega)).mono ?_;rintro e w5 ⟨yv,L,rfl,ho5,m1,m2,hc5,hb5⟩;have P5:=P2.out.drew.step hc5 hb5;have d0:=P5.c1;have l5:=P5.lt;obtain ⟨sl,cp,rfl⟩:=own_sl ho5;refine ⟨_,rfl,?_⟩)) | fail
     all_goals
      clear c1 d0 d2 d3
      have H6:=hidR P6
      have O6:=hidR ho6
      have C6:Hid (OwnN w6 (w.heap.size+2) v0 l):=by
       have a1:=(C2.out.kp (w':=w2.drew) (But.of_below (g:=p) (Below.drew (Below.refl _ _))) (by omega)).kp hb5 (by omega)
       refine OwnN.far' (a1.kp (p:=p) ((But.refl p _).alloc _) (by omega)) hg6 (fun k hk=>?_)
       obtain ⟨cs,f,hcs⟩:=hrow6 k hk
       have hk2:=(hr6 k hk).2
       exact ⟨cs,f,(Below.heap_alloc _ _ _ (Nat.lt_of_lt_of_le hk2 hb5.size)).trans ((hb5.block k hk2 (by have:=(hr6 k hk).1;omega)).trans hcs)⟩
      have BO6:Hid (BodsOk (bs++[L]) (1+x)):=by
       intro b hb
       rcases List.mem_append.1 hb with hb | hb
       ·exact BO.out b hb
       ·simp at hb
        subst hb
        exact ⟨m1,m2⟩
      clear P6 ho6 P5 hb5 hc5 ho5 m1 m2 hg6 hr6 hrow6
      go_wp2
      go_roundw
      case rel=>exact ⟨bs++[L],_,by simp;omega,by simp;try go_num,H6.out.set1 _,C6.out.st (by omega),by simpa using O6.out.st (by omega),BO6.out⟩
      case measure=>simp [intOf];omega
    ·obtain ⟨s0,a0,e0⟩:=own_sl C2.out
     obtain ⟨s1,a1,e1⟩:=S2.out.sl
     subst e0 e1
     have c0:=P2.out.c0
     have c1:=P2.out.c1
     have l2:=P2.out.lt
     obtain ⟨q0,g0⟩:=Option.isSome_iff_exists.1 P2.out.r0
     obtain ⟨q1,g1⟩:=Option.isSome_iff_exists.1 P2.out.r1
     have fz:=P2.out.fR
     have hjj:=hjx.out
     have B2:Hid (But p w w2):=P2.out.but
     have CB2:Hid (CB w2 p s n c):=P2.out.cb
     have BO2:Hid (BodsOk bs l.length):=by rw [hjj];exact BO.out
     go_wp2
     exact bodyPost_ret (v:=.agg #[.slice s0 l.length a0,.slice s1 bs.length a1]) (by simp [results,Tryz.results58,go_sem,g0,g1]) rfl ⟨_,_,l,bs,rfl,own_mono ((C2.out.st (g:=w.heap.size) (by omega)).st (g:=w.heap.size) (by omega)) (by omega),((S2.out.st (g:=w.heap.size) (by omega)).st (g:=w.heap.size) (by omega)).low (by omega),by omega,by omega,HCO.out,BO2.out,(CB2.out.set hp).set hp,but_set1 (but_set1 B2.out (Nat.le_refl _)) (Nat.le_refl _)⟩
end
section
set_option linter.unusedSimpArgs false
set_option linter.unusedVariables false
set_option maxRecDepth 100000
open Go.RowKit
theorem OwnN.ints {w:World} {base:Nat} {v:Value} {l:List Int} (h:OwnN w base v l):∃ s c,v=.slice s l.length c∧IntsR w base w.heap.size s l:=by
 rcases Nat.eq_zero_or_pos l.length with h0 | hpos
 ·rcases h.2 with ⟨h1,h2⟩ | ⟨g,cap,cur,a,-⟩
  ·exact ⟨none,0,by rw [h1,h2],.inl (List.length_eq_zero_iff.1 h0)⟩
  ·exact ⟨_,_,a,.inl (List.length_eq_zero_iff.1 h0)⟩
 ·obtain ⟨g,cap,rfl,-⟩:=World.ownsRow.form h hpos
  have hlt:=World.ownsRow.lt h g rfl
  refine ⟨_,_,rfl,.inr ⟨g,0,rfl,hlt.1,hlt.2,fun i hi=>?_⟩⟩
  rw [Nat.zero_add,World.ownsRow.cellAt h i (by omega),List.getElem?_map,List.getD_eq_getElem?_getD,List.getElem?_eq_getElem hi]
  rfl
theorem OwnP.ins {w:World} {base:Nat} {v:Value} {l:List I5} (h:OwnP w base v l):∃ s c,v=.slice s l.length c∧InsR w base w.heap.size s l:=by
 rcases Nat.eq_zero_or_pos l.length with h0 | hpos
 ·rcases h.2 with ⟨h1,h2⟩ | ⟨g,cap,cur,a,-⟩
  ·exact ⟨none,0,by rw [h1,h2],.inl (List.length_eq_zero_iff.1 h0)⟩
  ·exact ⟨_,_,a,.inl (List.length_eq_zero_iff.1 h0)⟩
 ·obtain ⟨g,cap,rfl,-⟩:=World.ownsRow.form h hpos
  have hlt:=World.ownsRow.lt h g rfl
  refine ⟨_,_,rfl,.inr ⟨g,0,rfl,hlt.1,hlt.2,fun i hi=>?_⟩⟩
  have hc:∀ j,j < 5→w.cell? ⟨g,i * 5+j,none⟩=(cellsP (l.getD i z5))[j]? :=fun j hj=>by
   rw [World.ownsRow.cellAt h (i * 5+j) (by omega)]
   exact flatP_at l i j hi hj
  rw [Nat.zero_add]
  exact ⟨hc 0 (by omega),hc 1 (by omega),hc 2 (by omega),hc 3 (by omega),hc 4 (by omega)⟩
theorem OwnB.bods {w:World} {base:Nat} {v:Value} {l:List (List I5)} (h:OwnB w base v l):∃ s c,v=.slice s l.length c∧BodsR w base w.heap.size s l:=by
 obtain ⟨xs,h1,h2,-⟩:=h
 rcases Nat.eq_zero_or_pos l.length with h0 | hpos
 ·rcases h1.2 with ⟨h1,h2⟩ | ⟨g,cap,cur,a,-⟩
  ·exact ⟨none,0,by rw [h1,h2],.inl (List.length_eq_zero_iff.1 h0)⟩
  ·exact ⟨_,_,a,.inl (List.length_eq_zero_iff.1 h0)⟩
 ·obtain ⟨g,cap,rfl,-⟩:=World.ownsRow.form h1 hpos
  have hlt:=World.ownsRow.lt h1 g rfl
  have hxl:xs.length=l.length:=by have:=h1.1;omega
  refine ⟨_,_,rfl,.inr ⟨g,0,rfl,hlt.1,hlt.2,fun i hi=>?_⟩⟩
  obtain ⟨s,c,e,hi'⟩:=OwnP.ins (h2 i hi)
  refine ⟨s,c,?_,hi'⟩
  rw [Nat.zero_add,World.ownsRow.cellAt h1 i (by omega),← e,List.getD_eq_getElem?_getD,List.getElem?_eq_getElem (by omega)]
  rfl
theorem OwnB.prog {w:World} {base:Nat} {v v':Value} {p:PD} (h:OwnN w base v p.caps) (h':OwnB w base v' p.bods):∃ s c s' c',v=.slice s p.caps.length c∧v'=.slice s' p.bods.length c'∧ProgR w base w.heap.size s s' p:=by
 obtain ⟨s,c,e,a⟩:=h.ints
 obtain ⟨s',c',e',a'⟩:=h'.bods
 exact ⟨s,c,s',c',e,e',a,a'⟩
end
section
set_option linter.unusedSimpArgs false
set_option linter.unusedVariables false
set_option maxRecDepth 100000
open Go.RowKit
structure DRx103 (w V:World) (cu:Nat) (s:Option Addr) (n c P S lo hi base:Nat) (p1 p2:Option Addr) (a1 a2:Nat) (pd:PD) (x1 x2 x3:Value) (D:SD):Prop where
 cb:CB V cu s n c
 but:But cu w V
 r0:(V.cell? ⟨w.heap.size,0,none⟩).isSome=true
 r1:(V.cell? ⟨w.heap.size,1,none⟩).isSome=true
 fr:∀ j,V.frozen? ⟨w.heap.size,j,none⟩=false
 t0:(V.cell? ⟨w.heap.size+1,0,none⟩).isSome=true
 t1:(V.cell? ⟨w.heap.size+1,1,none⟩).isSome=true
 t2:(V.cell? ⟨w.heap.size+1,2,none⟩).isSome=true
 ft:∀ j,V.frozen? ⟨w.heap.size+1,j,none⟩=false
 k0:V.cell? ⟨P,0,none⟩=some (.slice p1 pd.caps.length a1)
 k1:V.cell? ⟨P,1,none⟩=some (.slice p2 pd.bods.length a2)
 sb:BoF S V x1 x2 x3
 sx:BxS V S
 pg:ProgR V lo hi p1 p2 pd
 ow:∃ L1 L2,OwnS V base x1 x2 x3 L1 L2 D
 o1:cu < w.heap.size
 o2:w.heap.size+2≤lo
 o3:lo≤hi
 o4:hi≤P
 o5:P < base
 o6:base≤S
 o7:S < V.heap.size
theorem DRx103.step {w V V':World} {cu:Nat} {s:Option Addr} {n c P S lo hi base:Nat} {p1 p2:Option Addr} {a1 a2:Nat} {pd:PD} {x1 x2 x3:Value} {D:SD} (h:DRx103 w V cu s n c P S lo hi base p1 p2 a1 a2 pd x1 x2 x3 D) (hc:CB V' cu s n c) (hb:But cu V V'):DRx103 w V' cu s n c P S lo hi base p1 p2 a1 a2 pd x1 x2 x3 D:=by
 have o1:=h.o1
 have o2:=h.o2
 have o3:=h.o3
 have o4:=h.o4
 have o5:=h.o5
 have o6:=h.o6
 have o7:=h.o7
 have hs:=hb.size
 have B:∀ k,k < V.heap.size→k≠cu→V'.heap[k]? =V.heap[k]? :=fun k a b=>hb.block k a b
 have C:∀ k j,k < V.heap.size→k≠cu→V'.cell? ⟨k,j,none⟩=V.cell? ⟨k,j,none⟩:=fun k j a b=>World.cell?_of_block (w:=V) (B k a b)
 have F:∀ k j,k < V.heap.size→k≠cu→V'.frozen? ⟨k,j,none⟩=V.frozen? ⟨k,j,none⟩:=fun k j a b=>World.frozen?_of_block (w:=V) (B k a b)
 refine ⟨hc,h.but.trans hb,?_,?_,fun j=>(F _ _ (by omega) (by omega)).trans (h.fr j),?_,?_,?_,fun j=>(F _ _ (by omega) (by omega)).trans (h.ft j),(C _ _ (by omega) (by omega)).trans h.k0,(C _ _ (by omega) (by omega)).trans h.k1,h.sb.keep (B _ o7 (by omega)) hs,?_,h.pg.keep' (fun k a b=>B k (by omega) (by omega)),?_,o1,o2,o3,o4,o5,o6,by omega⟩
 ·rw [C _ _ (by omega) (by omega)];exact h.r0
 ·rw [C _ _ (by omega) (by omega)];exact h.r1
 ·rw [C _ _ (by omega) (by omega)];exact h.t0
 ·rw [C _ _ (by omega) (by omega)];exact h.t1
 ·rw [C _ _ (by omega) (by omega)];exact h.t2
 ·obtain ⟨cs,f,e⟩:=h.sx
  exact ⟨cs,f,(B _ o7 (by omega)).trans e⟩
 ·obtain ⟨L1,L2,o⟩:=h.ow
  exact ⟨L1,L2,o.keep (fun k a b=>B k b (by omega))⟩
/- another source put into the box -/
theorem DRx103.put {w V:World} {cu:Nat} {s:Option Addr} {n c P S lo hi base:Nat} {p1 p2:Option Addr} {a1 a2:Nat} {pd:PD} {x1 x2 x3 y1 y2 y3:Value} {D D':SD} {L1 L2:List (Rec×Value)} (h:DRx103 w V cu s n c P S lo hi base p1 p2 a1 a2 pd x1 x2 x3 D) (o:OwnS V base y1 y2 y3 L1 L2 D'):DRx103 w (((V.setCell ⟨S,0,none⟩ y1).setCell ⟨S,1,none⟩ y2).setCell ⟨S,2,none⟩ y3) cu s n c P S lo hi base p1 p2 a1 a2 pd y1 y2 y3 D':=by
 have o1:=h.o1
 have o2:=h.o2
 have o3:=h.o3
 have o4:=h.o4
 have o5:=h.o5
 have o6:=h.o6
 have o7:=h.o7
 obtain ⟨V',hV⟩:∃ V',((V.setCell ⟨S,0,none⟩ y1).setCell ⟨S,1,none⟩ y2).setCell ⟨S,2,none⟩ y3=V':=⟨_,rfl⟩
 have B:∀ k,k≠S→V'.heap[k]? =V.heap[k]? :=fun k a=>by
  subst hV
  exact (Below.heap_setCell _ ⟨S,2,none⟩ _ k a).trans ((Below.heap_setCell _ ⟨S,1,none⟩ _ k a).trans (Below.heap_setCell _ ⟨S,0,none⟩ _ k a))
 have C:∀ k j,k≠S→V'.cell? ⟨k,j,none⟩=V.cell? ⟨k,j,none⟩:=fun k j a=>World.cell?_of_block (w:=V) (B k a)
 have F:∀ k j,k≠S→V'.frozen? ⟨k,j,none⟩=V.frozen? ⟨k,j,none⟩:=fun k j a=>World.frozen?_of_block (w:=V) (B k a)
 have hs:V'.heap.size=V.heap.size:=by subst hV;simp
 have hcb:CB V' cu s n c:=by subst hV;exact ((h.cb.set (a:=⟨S,0,none⟩) (by show cu < S;omega)).set (a:=⟨S,1,none⟩) (by show cu < S;omega)).set (a:=⟨S,2,none⟩) (by show cu < S;omega)
 have hsb:BoF S V' y1 y2 y3:=by subst hV;exact ((h.sb.set0 _).set1 _).set2 _
 have hsx:BxS V' S:=by subst hV;exact h.sx.set.set.set
 have how:OwnS V' base y1 y2 y3 L1 L2 D':=by subst hV;exact ((o.offB h.sx).offB h.sx.set).offB h.sx.set.set
 have hbut:But cu w V':=⟨by subst hV;exact h.but.os,by subst hV;exact h.but.tape,by subst hV;exact h.but.output,by rw [hs];exact h.but.size,fun k a b=>(B k (by omega)).trans (h.but.block k a b)⟩
 rw [hV]
 refine ⟨hcb,hbut,?_,?_,fun j=>(F _ _ (by omega)).trans (h.fr j),?_,?_,?_,fun j=>(F _ _ (by omega)).trans (h.ft j),(C _ _ (by omega)).trans h.k0,(C _ _ (by omega)).trans h.k1,hsb,hsx,h.pg.keep' (fun k a b=>B k (by omega)),⟨L1,L2,how⟩,o1,o2,o3,o4,o5,o6,by omega⟩
 ·rw [C _ _ (by omega)];exact h.r0
 ·rw [C _ _ (by omega)];exact h.r1
 ·rw [C _ _ (by omega)];exact h.t0
 ·rw [C _ _ (by omega)];exact h.t1
 ·rw [C _ _ (by omega)];exact h.t2
theorem DRx103.fin {w V : World} {cu : Nat} {s : Option Addr} {n c P S lo hi base : Nat} {p1 p2 : Option Addr} {a1 a2 : Nat} {pd : PD} {x1 x2 x3 : Value} {D : SD} (h : DRx103 w V cu s n c P S lo hi base p1 p2 a1 a2 pd x1 x2 x3 D) (u0 u1 u2 u3 u4 : Value) :
  ∃ V5,(((((V.setCell ⟨w.heap.size,0,none⟩ u0).setCell ⟨w.heap.size,1,none⟩ u1).setCell ⟨w.heap.size+1,0,none⟩ u2).setCell ⟨w.heap.size+1,1,none⟩ u3).setCell ⟨w.heap.size+1,2,none⟩ u4).drew=V5∧ProgR V5 lo hi p1 p2 pd∧(∃ L1 L2,OwnS V5 base x1 x2 x3 L1 L2 D)∧CB V5 cu s n c∧But cu w V5∧base≤V5.heap.size:=by
 have o1:=h.o1
 have o2:=h.o2
 have o3:=h.o3
 have o4:=h.o4
 have o5:=h.o5
 have o6:=h.o6
 have o7:=h.o7
 obtain ⟨Z,hV⟩:∃ Z,((((V.setCell ⟨w.heap.size,0,none⟩ u0).setCell ⟨w.heap.size,1,none⟩ u1).setCell ⟨w.heap.size+1,0,none⟩ u2).setCell ⟨w.heap.size+1,1,none⟩ u3).setCell ⟨w.heap.size+1,2,none⟩ u4=Z:=⟨_,rfl⟩
 have B0:∀ k,k≠w.heap.size→k≠w.heap.size+1→Z.heap[k]? =V.heap[k]? :=fun k a b=>by
  rw [← hV]
  exact (Below.heap_setCell _ ⟨w.heap.size+1,2,none⟩ _ k b).trans ((Below.heap_setCell _ ⟨w.heap.size+1,1,none⟩ _ k b).trans ((Below.heap_setCell _ ⟨w.heap.size+1,0,none⟩ _ k b).trans ((Below.heap_setCell _ ⟨w.heap.size,1,none⟩ _ k a).trans (Below.heap_setCell _ ⟨w.heap.size,0,none⟩ _ k a))))
 have hs0:Z.heap.size=V.heap.size:=by rw [← hV];simp
 have hcb0:CB Z cu s n c:=by
  rw [← hV]
  exact ((((h.cb.set (a:=⟨w.heap.size,0,none⟩) o1).set (a:=⟨w.heap.size,1,none⟩) o1).set (a:=⟨w.heap.size+1,0,none⟩) (by show cu < w.heap.size+1;omega)).set (a:=⟨w.heap.size+1,1,none⟩) (by show cu < w.heap.size+1;omega)).set (a:=⟨w.heap.size+1,2,none⟩) (by show cu < w.heap.size+1;omega)
 have bl:Below 0 V Z:=by
  rw [← hV]
  exact ((((((Below.refl 0 V).setCell (p:=⟨w.heap.size,0,none⟩) (Nat.zero_le _) _).setCell (p:=⟨w.heap.size,1,none⟩) (Nat.zero_le _) _).setCell (p:=⟨w.heap.size+1,0,none⟩) (Nat.zero_le _) _).setCell (p:=⟨w.heap.size+1,1,none⟩) (Nat.zero_le _) _).setCell (p:=⟨w.heap.size+1,2,none⟩) (Nat.zero_le _) _)
 have ho0:Z.os=V.os∧Z.tape=V.tape∧Z.output=V.output:=⟨bl.os,bl.tape,bl.output⟩
 rw [hV]
 clear hV
 have B:∀ k,k≠w.heap.size→k≠w.heap.size+1→Z.drew.heap[k]? =V.heap[k]? :=B0
 have hs:Z.drew.heap.size=V.heap.size:=hs0
 have hcb:CB Z.drew cu s n c:=hcb0.keep (Below.drew (Below.refl _ _))
 refine ⟨Z.drew,rfl,h.pg.keep' (fun k a b=>B k (by omega) (by omega)),?_,hcb,⟨ho0.1.trans h.but.os,ho0.2.1.trans h.but.tape,ho0.2.2.trans h.but.output,by rw [hs];exact h.but.size,fun k a b=>(B k (by omega) (by omega)).trans (h.but.block k a b)⟩,by omega⟩
 obtain ⟨L1,L2,o⟩:=h.ow
 exact ⟨L1,L2,o.keep (fun k a b=>B k (by omega) (by omega))⟩
end
end Go.Proofs.YtknffngbdakblaaGreat
