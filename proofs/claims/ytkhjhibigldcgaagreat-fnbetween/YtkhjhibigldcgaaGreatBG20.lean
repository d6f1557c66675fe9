/- A step of the specification, whichever; a pick of the specification's machine. Condition: late is a number of 64 bits. The first steps as the specification reckons them. Conditions: bodies of at most 24 places, each of a kind that there is. Starts of the specification. Conditions: programs that fit. What the specification makes for a lock, for what faults, for a close. Conditions: the channel lies in memory. -/
import Derived.Test.YtkhjhibigldcgaaGreatBG00
import Derived.Test.YtkhjhibigldcgaaGreatBG07
import Derived.Test.YtkhjhibigldcgaaGreatBG10
import Derived.Test.YtkhjhibigldcgaaGreatBG11
import Derived.Test.YtkhjhibigldcgaaGreatBG01
import Derived.Test.YtkhjhibigldcgaaGreatBG09
import Derived.Test.YtkhjhibigldcgaaGreatBG17
import Derived.Test.YtkhjhibigldcgaaGreatBKSpB
import Derived.Test.YtkhjhibigldcgaaGreatBKSpC
import Derived.Test.YtkhjhibigldcgaaGreatBKSpD
import Derived.Test.YtkhjhibigldcgaaGreatBKSpE
import Derived.Test.YtkhjhibigldcgaaGreatBKSpF
import Derived.Test.YtkhjhibigldcgaaGreatBKSpG
import Derived.Test.YtkhjhibigldcgaaGreatBG05
import Derived.Test.YtkhjhibigldcgaaGreatBG04
import Derived.Test.YtkhjhibigldcgaaGreatBE10Of
import Derived.Deep.RegionHeld3
import Derived.Test.YtkhjhibigldcgaaGreatBSpecIns
import Derived.Test.YtkhjhibigldcgaaGreatBProgOk
import Derived.Test.YtkhjhibigldcgaaGreatBG16
import Derived.Test.YtkhjhibigldcgaaGreatBG06
import Derived.Deep.DeepCutAuto
namespace Go.Proofs.YtkhjhibigldcgaaGreat
section
set_option linter.unusedSimpArgs false
set_option linter.unusedVariables false
set_option maxRecDepth 100000
open Go.RowKit
theorem l8Step_any {Hq : Nat → Prop} (B : Nat) (vc vk vm vt : Value) (LC : List CV) (LK : List KV) (S : List RS) (d : MD) (who : Nat) (k : KD) (code : List I5) (s : I5) (late : Int) (w : World) (h : MQ w B Hq vc vk vm vt LC LK S d) (ha : At8 d who k code s) (hb : B ≤ w.heap.size) (hlate : late ≤ 9223372036854775807) (hr : k.st = 0) :
  Calls Tryz.prog 28 #[.agg #[vc,vk,vm,vt],.agg #[.int .i64 who,.int .i64 late]] w fun e w'=>StepX w B Hq vc vk vm vt LC LK S d (stepM d who late) e w':=by
 rw [stepM_at ha late hr]
 have hok:=ha.ok
 unfold stX Plain.stepB at hok
 rw [decide_eq_true_eq] at hok
 rcases (show s.o=1∨s.o=2∨s.o=3∨s.o=4∨s.o=9∨s.o=10∨s.o=11∨s.o=12∨s.o=13∨(5≤s.o∧s.o≤8) by omega) with e | e | e | e | e | e | e | e | e | e
 ·exact sp1 B vc vk vm vt LC LK S d who k code s late w h ha hb e
 ·exact sp2 B vc vk vm vt LC LK S d who k code s late w h ha hb e
 ·exact sp3 B vc vk vm vt LC LK S d who k code s late w h ha hb e
 ·exact sp4 B vc vk vm vt LC LK S d who k code s late w h ha hb e
 ·exact sp9 B vc vk vm vt LC LK S d who k code s late w h ha hb e
 ·exact sp10 B vc vk vm vt LC LK S d who k code s late w h ha hb e
 ·exact sp11 B vc vk vm vt LC LK S d who k code s late w h ha hb e
 ·exact sp12 B vc vk vm vt LC LK S d who k code s late w h ha hb e
 ·exact sp13 B vc vk vm vt LC LK S d who k code s late w h ha hb e
 ·exact spM B vc vk vm vt LC LK S d who k code s late w h ha hb hlate e
end
section
set_option linter.unusedSimpArgs false
set_option linter.unusedVariables false
set_option maxRecDepth 100000
open Go.RowKit
theorem own_one (w:World) (z:Int):OwnN (w.alloc (.cells #[.int .i64 z] 3)) w.heap.size (.slice (some ⟨w.heap.size,0,none⟩) 1 1) [z]:=by
 exact ⟨rfl,.inr ⟨w.heap.size,1,#[.int .i64 z],rfl,Nat.le_refl _,heap_alloc_new w _,Nat.le_refl _,by unfold maxLen;omega,rfl,rfl⟩⟩
theorem run_keepN {w : World} {base g cap n : Nat} {ls : List Int} (hown : OwnN w base (.slice (some ⟨g, 0, none⟩) n cap) ls) (ty : TypeId) (g0 o0 c : Nat) (l : List Int) (hc : ∀ i, i < l.length → w.cell? ⟨g0, o0 + i, none⟩ = some (.int .i64 (l.getD i 0)))
  (hl:0 < l.length) (hn:ls.length+l.length≤1099511627776) (hbase:base≤w.heap.size):
  ∃ g1 cap1 w',(Builtin.append_ #[24,24] ty #[.slice (some ⟨g,0,none⟩) n cap,.slice (some ⟨g0,o0,none⟩) l.length c]).run Tryz.prog w=.ok (.slice (some ⟨g1,0,none⟩) (ls.length+l.length) cap1) w'∧
   OwnN w' base (.slice (some ⟨g1,0,none⟩) (ls.length+l.length) cap1) (ls++l)∧Below base w w'∧g1 < w'.heap.size∧base≤g1∧(∀ j,j < ls.length→w'.cell? ⟨g,j,none⟩=w.cell? ⟨g,j,none⟩):=by
 obtain ⟨i0,hi,hz0,hz1,hz2⟩:=infoInt
 have hnews:∀ j u,(l.map (Value.int .i64))[j]? =some u→w.cell? (Addr.add ⟨g0,o0,none⟩ j)=some u:=news_row hc
 have h1:∀ u∈l.map (Value.int .i64),u.oneCell'=true:=fun u hu=>by obtain ⟨z,-,rfl⟩:=List.mem_map.1 hu;rfl
 have hl1:(l.map (Value.int .i64)).length=l.length * i0.size:=by rw [hz1];simp
 obtain ⟨g1,cap1,w',hr,q1,q2,q3,q4⟩:=run_append_lies (P:=Tryz.prog) w 24 ty base 3 i0 _ 1 8 Tryz.underlying24 hi hz0 hz1 hz2 rfl (by decide) _ ls.length _ hown ⟨g0,o0,none⟩ l.length c _ (by simp) hnews h1 hl (by unfold maxLen;omega) (by omega) hbase _ rfl
 have hb:Below base w w':=Below.grown (Below.refl _ _) q2 hbase (fun j hj=>(World.ownsRow.lt hown _ hj).1)
 have ho':OwnN w' base (.slice (some ⟨g1,0,none⟩) (ls.length+l.length) cap1) (ls++l):=by
  show w'.ownsRow base 3 1 _ (ls++l).length ((ls++l).map (Value.int .i64))
  rw [List.map_append,List.length_append]
  exact q1
 have same:g1=g→∀ j,j < ls.length→w'.cell? ⟨g,j,none⟩=w.cell? ⟨g,j,none⟩:=by
  rintro rfl j hj
  have a1:=World.ownsRow.cells ho' (g:=g1) rfl j (.int .i64 (ls.getD j 0)) (by rw [List.getElem?_map,List.getElem?_append_left hj,List.getElem?_eq_getElem hj];simp [List.getD_eq_getElem?_getD,List.getElem?_eq_getElem hj])
  have a2:=World.ownsRow.cells hown (g:=g1) rfl j (.int .i64 (ls.getD j 0)) (by simp [List.getD_eq_getElem?_getD,List.getElem?_eq_getElem hj])
  have e:(Addr.add ⟨g1,0,none⟩ j)=⟨g1,j,none⟩:=by by_cases h:j=0<;>simp [Addr.add,h]
  rw [e] at a1 a2
  exact a1.trans a2.symm
 refine ⟨g1,cap1,w',hr,ho',hb,q4,?_,?_⟩
 ·rcases q3 with q3 | q3
  ·exact (World.ownsRow.lt hown _ q3).1
  ·omega
 ·rcases q3 with q3 | q3
  ·exact same (by simpa [Value.ownBlock] using q3.symm)
  ·rcases hown.2 with ⟨h0,_⟩ | ⟨g',cap',cur,hv,hbg,hg,hnc,hcm,hcs,htake⟩
   ·cases h0
   ·cases hv
    have hgl:g < w.heap.size:=(Array.getElem?_eq_some_iff.1 hg).1
    by_cases hroom:ls.length+l.length≤cap
    ·have hr2:=run_append_room (P:=Tryz.prog) w 24 ty 3 i0 Tryz.underlying24 hi g ls.length cap cur hg ⟨g0,o0,none⟩ l.length c _ hl1 hnews h1 hroom (by rw [hz1,hcs];simp;omega)
     rw [hr2] at hr
     simp only [Result.ok.injEq,Value.slice.injEq,Option.some.injEq,Addr.mk.injEq] at hr
     exact same hr.1.1.1.symm
    ·have hr2:=run_append_grow (P:=Tryz.prog) w 24 ty 3 i0 _ Tryz.underlying24 hi hz0 ⟨g,0,none⟩ ls.length cap (ls.map (Value.int .i64)) (by rw [hz1];simp) (World.ownsRow.cells hown (g:=g) rfl) ⟨g0,o0,none⟩ l.length c _ hl1 hnews (by omega) (by omega) (by rw [hz2];exact growslice_fits (by omega) (by omega))
     rw [hr2] at hr
     injection hr with _ e
     intro j hj
     rw [← e]
     exact World.cell?_of_block (Below.heap_alloc w.drew _ g hgl)
theorem step_keepN {ops : Array Oper} {o : Oper} {a : Act} {K : Act → World → Prop} {Q : Exit → Act → World → Prop} {E : Prop} (hgd : o.guard = none) (s x : Operand) (ho : o.op = .call { callee := .builtin .append, args := #[s, x], argTypes := #[24, 24] })
  (w:World) (base g cap n:Nat) (ls:List Int) (hs:a.eval s=.slice (some ⟨g,0,none⟩) n cap) (hown:OwnN w base (.slice (some ⟨g,0,none⟩) n cap) ls) (g0 o0 c:Nat) (l:List Int) (hx:a.eval x=.slice (some ⟨g0,o0,none⟩) l.length c) (hc:∀ i,i < l.length→w.cell? ⟨g0,o0+i,none⟩=some (.int .i64 (l.getD i 0)))
  (hl:0 < l.length) (hn:ls.length+l.length≤1099511627776) (hbase:base≤w.heap.size)
  (h:∀ g1 cap1 w',OwnN w' base (.slice (some ⟨g1,0,none⟩) (ls.length+l.length) cap1) (ls++l)→Below base w w'→g1 < w'.heap.size→base≤g1→(∀ j,j < ls.length→w'.cell? ⟨g,j,none⟩=w.cell? ⟨g,j,none⟩)→K (a.put o.dst (.slice (some ⟨g1,0,none⟩) (ls.length+l.length) cap1)) w'):
  if Region.wanted o (yielded ops a.tmps)=true then Oper.wp Tryz.prog o a w K Q else E:=by
 have hw:Region.wanted o (yielded ops a.tmps)=true:=by simp [Region.wanted,hgd]
 rw [if_pos hw]
 obtain ⟨g1,cap1,w',hr,h2,h3,h4,h5,h6⟩:=run_keepN hown o.type g0 o0 c l hc hl hn hbase
 unfold Oper.wp execOp
 simp only [ho,resolve,invoke,builtin,Sem.run_bind,Sem.run_pure,Result.andThen_ok,List.map_toArray,List.map_cons,List.map_nil,hs,hx,hr]
 exact h g1 cap1 w' h2 h3 h4 h5 h6
set_option maxRecDepth 100000 in
set_option maxHeartbeats 4000000 in
theorem l11Starts_any (s : Option Addr) (c lo hi : Nat) (l : List I5) (w : World) (h : InsR w lo hi s l) (hB : hi ≤ w.heap.size) (hr : Rt l) :
  Calls Tryz.prog 23 #[.slice s l.length c] w fun e w'=>(∃ g cap,e=.returned (.slice (some ⟨g,0,none⟩) (l.length+1) cap)∧OwnN w' w.heap.size (.slice (some ⟨g,0,none⟩) (l.length+1) cap) (stL l (l.length+1))∧g < w'.heap.size)∧Below w.heap.size w w':=by
 have HI:=hidP h
 have HR:=hidP hr
 have hl24:=hr.len
 clear h hr
 go_enter Tryz.func23,Tryz.ntmps23
 go_wp2
 go_loopw [3,4] (fun v i wr=>∃ k:Nat,k≤l.length∧i=.int .i64 k∧(∃ g cap,v=.slice (some ⟨g,0,none⟩) (k+1) cap∧OwnN wr w.heap.size (.slice (some ⟨g,0,none⟩) (k+1) cap) (stL l (k+1))∧w.heap.size≤g∧g < wr.heap.size)∧Below w.heap.size w wr) (fun _ i _=>l.length - (intOf i).toNat)
 case atStart=>exact ⟨0,Nat.zero_le _,rfl,⟨_,_,rfl,own_one w 0,Nat.le_refl _,by simp⟩,(Below.refl _ _).alloc (Nat.le_refl _) _⟩
 case round=>
  obtain ⟨k,hk,rfl,⟨g,cap,rfl,ho,hg0,hg1⟩,hb⟩:=hrel
  have HO:=hidP ho
  have HB:=hidP hb
  have hs:=hb.size
  have hlen:=stL_len l (k+1)
  by_cases hlt:k < l.length
  ·obtain ⟨gl,off,hs',hlo,hgl,hc⟩:=insR_at HI.out hlt
   subst hs'
   obtain ⟨f0,f1,f2,f3,f4⟩:=(hc k hlt).keep hb (by omega)
   have hsz:=HR.out.sz k hlt
   have hbd:=stV_big HR.out hk
   have f5:wr.cell? ⟨g,k,none⟩=some (.int .i64 (stV l k)):=by
    have:=OwnN.cell (w:=wr) (base:=w.heap.size) (g:=g) (cap:=cap) (ls:=stL l (k+1)) (by rw [hlen];exact ho) (i:=k) (by omega)
    rw [stL_at l (Nat.lt_succ_self k)] at this
    exact this
   have ST:=hidP (show stV l (k+1)=stV l k+sizeV (l.getD k z5).o from rfl)
   clear ho hb hc hlen
   generalize l.getD k z5=x at f0 f1 f2 f3 f4 hsz ST
   obtain ⟨xo,xr,xa,xb,xn⟩:=x
   obtain ⟨st,hst⟩:∃ st,stV l k=st:=⟨_,rfl⟩
   have HST:=hidP hst
   rw [hst] at hbd f5
   clear hst
   obtain ⟨sz,hsz0⟩:∃ sz,sizeV xo=sz:=⟨_,rfl⟩
   have HSZ:=hidP hsz0
   have hsz1:1≤sz∧sz≤32:=by rw [← hsz0];exact hsz
   clear hsz0 hsz
   have b0:(0:Int)≤(k:Int):=by omega
   have b1:(k:Int) < (l.length:Int):=by omega
   have b2:(k:Int) < ((k+1:Nat):Int):=by omega
   have b3:(k:Int) < (k:Int)+1:=by omega
   have hwr:IntKind.i64.wrap (st+sz)=st+sz:=by unfold IntKind.wrap;simp [IntKind.signed,IntKind.bits];omega
   have gl1:gl < wr.heap.size:=by omega
   have hg1'':g < wr.heap.size:=hg1
   go_wp2_with fail
   go_region_held3 (fun w'=>w'.cell? ⟨g,k,none⟩=some (.int .i64 st)∧w'.cell? ⟨gl,off+k * 5,none⟩=some (.int .i64 xo)∧w'.cell? ⟨gl,off+k * 5+1,none⟩=some (.int .i64 xr)∧w'.cell? ⟨gl,off+k * 5+2,none⟩=some (.int .i64 xa)∧w'.cell? ⟨gl,off+k * 5+3,none⟩=some (.int .i64 xb)∧w'.cell? ⟨gl,off+k * 5+4,none⟩=some (.int .i64 xn)) (go_keep) (first | (go_at_call 35;refine (specSize_any _ _ _ _ _ _).mono ?_;rintro e w' ⟨rfl,rfl⟩;rw [HSZ.out]) | (refine step_keepN rfl _ _ rfl _ w.heap.size g cap (k+1) (stL l (k+1)) rfl ((HO.out.alloc (.cells #[.int .i64 xo,.int .i64 xr,.int .i64 xa,.int .i64 xb,.int .i64 xn] 71)).alloc (.cells #[.int .i64 (st+sz)] 3)) (wr.heap.size+1) 0 1 [st+sz] rfl (fun i hi=>by simp at hi;subst hi;simp [go_sem]) (by simp) (by rw [stL_len];simp;omega) (by simp;omega) ?_;intro g1 cap1 w1 ho1 hb1 hg1 hg1' hk1;have t5:=(hk1 k (by rw [stL_len];omega)).trans ((show _=wr.cell? ⟨g,k,none⟩ by simp [go_sem,hg1'']).trans f5);have t0:=(hb1.cell (p:=⟨gl,off+k * 5,none⟩) (show gl < w.heap.size by omega)).trans ((show _=wr.cell? ⟨gl,off+k * 5,none⟩ by simp [go_sem,gl1]).trans f0);have t1:=(hb1.cell (p:=⟨gl,off+k * 5+1,none⟩) (show gl < w.heap.size by omega)).trans ((show _=wr.cell? ⟨gl,off+k * 5+1,none⟩ by simp [go_sem,gl1]).trans f1);have t2:=(hb1.cell (p:=⟨gl,off+k * 5+2,none⟩) (show gl < w.heap.size by omega)).trans ((show _=wr.cell? ⟨gl,off+k * 5+2,none⟩ by simp [go_sem,gl1]).trans f2);have t3:=(hb1.cell (p:=⟨gl,off+k * 5+3,none⟩) (show gl < w.heap.size by omega)).trans ((show _=wr.cell? ⟨gl,off+k * 5+3,none⟩ by simp [go_sem,gl1]).trans f3);have t4:=(hb1.cell (p:=⟨gl,off+k * 5+4,none⟩) (show gl < w.heap.size by omega)).trans ((show _=wr.cell? ⟨gl,off+k * 5+4,none⟩ by simp [go_sem,gl1]).trans f4)))
   all_goals
    have HO1:=hidP ho1
    have HB1:Hid (Below w.heap.size w w1):=HB.out.trans ((show Below w.heap.size wr (((wr.alloc (.cells #[.int .i64 xo,.int .i64 xr,.int .i64 xa,.int .i64 xb,.int .i64 xn] 71)).alloc (.cells #[.int .i64 (st+sz)] 3)).drew) from Below.drew (((Below.refl _ _).alloc hs _).alloc (by simp;omega) _)).trans hb1)
    clear ho1 hb1 t0 t1 t2 t3 t4 t5 hk1
    have EL:=hidP (show stL l (k+1)++[st+sz]=stL l (k+1+1) by rw [stL_succ l (k+1),ST.out,HST.out,HSZ.out])
    have e2:(stL l (k+1)).length+1=k+1+1:=by rw [stL_len]
    have HO2:Hid (OwnN w1 w.heap.size (.slice (some ⟨g1,0,none⟩) (k+1+1) cap1) (stL l (k+1+1))):=by
     have:=HO1.out
     rw [EL.out,show (stL l (k+1)).length+[st+sz].length=k+1+1 from by rw [stL_len];rfl] at this
     exact this
    clear HO1
    go_wp2
    exact ⟨⟨k+1,by omega,by go_num,⟨g1,cap1,by rw [← e2],HO2.out,hg1',hg1⟩,HB1.out⟩,by simp [intOf];omega⟩
  ·have hkn:k=l.length:=by omega
   subst hkn
   go_wp2
   go_ret
   exact ⟨⟨g,cap,rfl,HO.out,hg1⟩,HB.out⟩
end
section
set_option linter.unusedSimpArgs false
set_option linter.unusedVariables false
set_option maxRecDepth 100000
open Go.RowKit
def stB (p:PD) (b:Int):List Int:=stL (bodV p b) (bodV p b).length
theorem l1In_is11 (x lo hi:Int) (v:Bool) (w:World) (h:Plain.inB x lo hi=v):Calls Tryz.prog 13 #[.int .i64 x,.int .i64 lo,.int .i64 hi] w fun e w'=>e=.returned (.bool v)∧w'=w:=by
 subst h
 exact l1In_any x lo hi w
theorem stB_none {p:PD} {b:Int} (h:bodV p b=[]):stB p b=[]:=by unfold stB;rw [h];rfl
set_option maxRecDepth 100000 in
set_option maxHeartbeats 4000000 in
theorem specStarts_any (s s' : Option Addr) (c c' lo hi : Nat) (p : PD) (b : Int) (w : World) (h : ProgR w lo hi s s' p) (hB : hi ≤ w.heap.size) (hf : Fits p) :
  Calls Tryz.prog 55 #[.agg #[.slice s p.caps.length c,.slice s' p.bods.length c'],.int .i64 b] w fun e w'=>∃ v,e=.returned v∧OwnN w' w.heap.size v (stB p b)∧Below w.heap.size w w':=by
 have HP:=hidP h
 have HF:=hidP hf
 have hfn:=hf.2.1
 clear h hf
 obtain ⟨W,hW,bx,kb,zb⟩:=Bo2.new w (.slice s p.caps.length c) (.slice s' p.bods.length c') 27
 have HB2:=hidP bx
 have HK:=hidP kb
 have zb':w.heap.size+1≤W.heap.size:=by omega
 clear zb
 obtain ⟨x0,x1⟩:=bx
 clear kb
 go_enter Tryz.func55,Tryz.ntmps55
 go_wp2_with fail
 refine (specProg_any s s' c c' lo hi p W (ProgR.keep' HP.out (Keep.of_below HK.out hB)) (by omega) HF.out).mono ?_
 rintro e w1 ⟨rfl,hb1⟩
 have K1:=hidP (HK.out.trans (hb1.mono (by omega)))
 clear x0 x1
 obtain ⟨x0,x1⟩:=HB2.out.keep (Keep.of_below hb1 (by omega))
 have hz1:=hb1.size
 clear hb1
 cases hp:progB p
 ·have E:=hidP (stB_none (bodV_no (p:=p) (b:=b) (fun h=>by rw [hp] at h;cases h.1)))
  clear hp
  go_wp2
  go_ret
  exact ⟨_,rfl,by rw [E.out];exact ownN_empty (by omega),K1.out.alloc (by omega) _⟩
 ·have E:=hidP hp
  have hbn:=(progB_len hp).1
  clear hp
  cases hq:Plain.inB b 0 ((p.bods.length:Int) - 1)
  ·have E2:=hidP (stB_none (bodV_no (p:=p) (b:=b) (fun h=>by simp only [Plain.inB,decide_eq_false_iff_not] at hq;exact hq ⟨h.2.1,by omega⟩)))
   have HQ:=hidP hq
   clear hq
   go_wp2_with (go_at_call 13;refine (l1In_is11 _ _ _ false _ HQ.out).mono ?_;rintro e w2 ⟨rfl,h2⟩;rw [h2];clear h2 w2)
   go_ret
   exact ⟨_,rfl,by rw [E2.out];exact ownN_empty (by omega),K1.out.alloc (by omega) _⟩
  ·have HQ:=hidP hq
   simp only [Plain.inB,decide_eq_true_eq] at hq
   obtain ⟨q0,q1⟩:=hq
   obtain ⟨j,rfl⟩:∃ j:Nat,b=j:=⟨b.toNat,by omega⟩
   have E2:=hidP (bodV_yes E.out q0 (by omega:(j:Int) < p.bods.length))
   have HR:=hidP (bodV_rt p (j:Int))
   obtain ⟨g,off,rfl,hg,s1,c1,hcell,hin⟩:=bods_at ((ProgR.keep' HP.out (Keep.of_below K1.out hB)).2) (i:=j) (by omega)
   have e3:p.bods.getD j []=bodV p (j:Int):=by rw [E2.out];rfl
   have hl1:=(progB_body E.out (i:=j) (by omega)).2
   rw [e3] at hcell hin hl1
   clear e3 E2
   obtain ⟨l,hl⟩:∃ l,bodV p (j:Int)=l:=⟨_,rfl⟩
   have HS:Hid (stB p (j:Int)=stL l l.length):=by show stB p (j:Int)=stL l l.length;unfold stB;rw [hl]
   rw [hl] at hcell hin HR hl1
   clear hl
   have HIN:=hidP hin
   have hl24:=HR.out.len
   clear hin
   have b1:(j:Int) < (p.bods.length:Int):=by omega
   go_wp2_with (go_at_call 13;refine (l1In_is11 _ _ _ true _ HQ.out).mono ?_;rintro e w2 ⟨rfl,h2⟩;rw [h2];clear h2 w2)
   refine (l11Starts_any s1 c1 lo hi l w1 HIN.out (by omega) HR.out).mono ?_
   rintro e w2 ⟨⟨g2,cap2,rfl,ho2,hg2⟩,hb2⟩
   have K2:=hidP (K1.out.trans (hb2.mono (by omega)))
   have hz2:=hb2.size
   have hcp:l.length+1≤cap2:=by
    rcases ho2.2 with ⟨h0,_⟩ | ⟨g',cap',cur,hv,hbg,hgc,hnc,hcm,hcs,htake⟩
    ·cases h0
    ·simp only [Value.slice.injEq] at hv
     obtain ⟨-,e1,e2⟩:=hv
     rw [stL_len] at hnc
     omega
   have cells:∀ i,i < (stL l l.length).length→(w2.alloc (.cells #[] 3)).cell? ⟨g2,0+i,none⟩=some (.int .i64 ((stL l l.length).getD i 0)):=fun i hi=>by
    rw [stL_len] at hi
    have:=OwnN.cell (w:=w2) (base:=w1.heap.size) (g:=g2) (cap:=cap2) (ls:=stL l (l.length+1)) (by rw [stL_len];exact ho2) (i:=i) (by rw [stL_len];omega)
    rw [stL_at l (by omega:i < l.length+1)] at this
    rw [stL_at l hi,Nat.zero_add]
    exact (((Below.refl _ _).alloc (Nat.le_refl _) _).cell (p:=⟨g2,i,none⟩) hg2).trans this
   have HC:=hidP cells
   clear hb2 ho2 cells HIN hcell x0 x1
   have hcp':(l.length:Int)≤(cap2:Int):=by omega
   go_wp2_with (first | (at_builtin;refine app_row rfl _ _ rfl _ w.heap.size (.slice (some ⟨w2.heap.size,0,none⟩) 0 0) [] rfl (ownN_empty (by omega)) g2 0 cap2 (stL l l.length) (by rw [stL_len];rfl) HC.out (by rw [stL_len];omega) (by rw [stL_len];simp;omega) (by simp;omega) ?_;intro g3 cap3 w3 ho3 hb3 hg3 hg3';rw [List.nil_append,List.length_nil,Nat.zero_add] at ho3) | go_in)
   go_ret
   exact ⟨.slice (some ⟨g3,0,none⟩) (stL l l.length).length cap3,rfl,by rw [HS.out];exact ho3,K2.out.trans ((show Below w.heap.size w2 _ from (Below.refl _ _).alloc (by omega) _).trans hb3)⟩
end
section
set_option linter.unusedSimpArgs false
set_option linter.unusedVariables false
set_option maxRecDepth 100000
open Go.RowKit
def lockS (b fr:Int):List I5:=[⟨1,7,0,0,1⟩,⟨8,6,0,7,b⟩,⟨11,0,6,0,ad fr 4⟩,⟨10,0,0,0,fr⟩]
def shutS (b fr:Int):List I5:=[⟨5,4,-1,0,b+3⟩,⟨11,0,4,0,ad fr 9⟩]++letR b++[⟨13,0,0,0,0⟩]
set_option maxHeartbeats 2000000 in
theorem sLet (b:Int) (w:World) (h0:0≤b) (h1:b≤20):Calls Tryz.prog 107 #[.int .i64 b] w fun e w'=>∃ g c,e=.returned (.slice (some ⟨g,0,none⟩) 2 c)∧OwnT5 w' w.heap.size (.slice (some ⟨g,0,none⟩) 2 c) (letR b)∧Below w.heap.size w w':=by
 have HK:Hid (Below w.heap.size w w):=Below.refl _ _
 go_enter Tryz.func107,Tryz.ntmps107
 go_wp2_with (first | (go_at_call 105;refine (sLoad _ _ _).mono ?_;rintro e w1 ⟨rfl,hb1⟩;have JK:Hid (Below w.heap.size w w1):=(by first | exact HK.out.trans (hb1.mono HK.out.size) | exact HK.out.drew.trans (hb1.mono HK.out.drew.size));clear HK;have HK:=JK;clear JK hb1) | (go_at_call 106;refine (sStore _ _ _).mono ?_;rintro e w1 ⟨rfl,hb1⟩;have JK:Hid (Below w.heap.size w w1):=(by first | exact HK.out.trans (hb1.mono HK.out.size) | exact HK.out.drew.trans (hb1.mono HK.out.drew.size));clear HK;have HK:=JK;clear JK hb1) | (go_at_call 76;refine (sSet _ _ _).mono ?_;rintro e w1 ⟨rfl,hb1⟩;have JK:Hid (Below w.heap.size w w1):=(by first | exact HK.out.trans (hb1.mono HK.out.size) | exact HK.out.drew.trans (hb1.mono HK.out.drew.size));clear HK;have HK:=JK;clear JK hb1) | (go_at_call 79;refine (sZero _ _ _).mono ?_;rintro e w1 ⟨rfl,hb1⟩;have JK:Hid (Below w.heap.size w w1):=(by first | exact HK.out.trans (hb1.mono HK.out.size) | exact HK.out.drew.trans (hb1.mono HK.out.drew.size));clear HK;have HK:=JK;clear JK hb1) | (go_at_call 78;refine (sJump _ _).mono ?_;rintro e w1 ⟨rfl,hb1⟩;have JK:Hid (Below w.heap.size w w1):=(by first | exact HK.out.trans (hb1.mono HK.out.size) | exact HK.out.drew.trans (hb1.mono HK.out.drew.size));clear HK;have HK:=JK;clear JK hb1) | (go_at_call 77;refine (sThree _ _ _ _ _).mono ?_;rintro e w1 ⟨rfl,hb1⟩;have JK:Hid (Below w.heap.size w w1):=(by first | exact HK.out.trans (hb1.mono HK.out.size) | exact HK.out.drew.trans (hb1.mono HK.out.drew.size));clear HK;have HK:=JK;clear JK hb1))
 have hkz:=HK.out.size
 go_ret
 exact ⟨_,_,rfl,own5_new (letR b) _ rfl (by omega) (Nat.le_of_ble_eq_true rfl),HK.out.alloc (by omega) _⟩
set_option maxHeartbeats 2000000 in
theorem sLock (b fr:Int) (w:World) (h0:0≤b) (h1:b≤20):Calls Tryz.prog 103 #[.int .i64 b,.int .i64 fr] w fun e w'=>∃ g c,e=.returned (.slice (some ⟨g,0,none⟩) 4 c)∧OwnT5 w' w.heap.size (.slice (some ⟨g,0,none⟩) 4 c) (lockS b fr)∧Below w.heap.size w w':=by
 have HK:Hid (Below w.heap.size w w):=Below.refl _ _
 go_enter Tryz.func103,Tryz.ntmps103
 go_wp2_with (first | (go_at_call 105;refine (sLoad _ _ _).mono ?_;rintro e w1 ⟨rfl,hb1⟩;have JK:Hid (Below w.heap.size w w1):=(by first | exact HK.out.trans (hb1.mono HK.out.size) | exact HK.out.drew.trans (hb1.mono HK.out.drew.size));clear HK;have HK:=JK;clear JK hb1) | (go_at_call 106;refine (sStore _ _ _).mono ?_;rintro e w1 ⟨rfl,hb1⟩;have JK:Hid (Below w.heap.size w w1):=(by first | exact HK.out.trans (hb1.mono HK.out.size) | exact HK.out.drew.trans (hb1.mono HK.out.drew.size));clear HK;have HK:=JK;clear JK hb1) | (go_at_call 76;refine (sSet _ _ _).mono ?_;rintro e w1 ⟨rfl,hb1⟩;have JK:Hid (Below w.heap.size w w1):=(by first | exact HK.out.trans (hb1.mono HK.out.size) | exact HK.out.drew.trans (hb1.mono HK.out.drew.size));clear HK;have HK:=JK;clear JK hb1) | (go_at_call 79;refine (sZero _ _ _).mono ?_;rintro e w1 ⟨rfl,hb1⟩;have JK:Hid (Below w.heap.size w w1):=(by first | exact HK.out.trans (hb1.mono HK.out.size) | exact HK.out.drew.trans (hb1.mono HK.out.drew.size));clear HK;have HK:=JK;clear JK hb1) | (go_at_call 78;refine (sJump _ _).mono ?_;rintro e w1 ⟨rfl,hb1⟩;have JK:Hid (Below w.heap.size w w1):=(by first | exact HK.out.trans (hb1.mono HK.out.size) | exact HK.out.drew.trans (hb1.mono HK.out.drew.size));clear HK;have HK:=JK;clear JK hb1) | (go_at_call 77;refine (sThree _ _ _ _ _).mono ?_;rintro e w1 ⟨rfl,hb1⟩;have JK:Hid (Below w.heap.size w w1):=(by first | exact HK.out.trans (hb1.mono HK.out.size) | exact HK.out.drew.trans (hb1.mono HK.out.drew.size));clear HK;have HK:=JK;clear JK hb1))
 have hkz:=HK.out.size
 go_ret
 exact ⟨_,_,rfl,own5_new (lockS b fr) _ rfl (by omega) (Nat.le_of_ble_eq_true rfl),HK.out.alloc (by omega) _⟩
set_option maxHeartbeats 4000000 in
theorem sShut (b fr:Int) (w:World) (h0:0≤b) (h1:b≤20):Calls Tryz.prog 104 #[.int .i64 b,.int .i64 fr] w fun e w'=>∃ g c,e=.returned (.slice (some ⟨g,0,none⟩) 5 c)∧OwnT5 w' w.heap.size (.slice (some ⟨g,0,none⟩) 5 c) (shutS b fr)∧Below w.heap.size w w':=by
 have HK:Hid (Below w.heap.size w w):=Below.refl _ _
 go_enter Tryz.func104,Tryz.ntmps104
 go_upto_region 2 with (first | (go_at_call 105;refine (sLoad _ _ _).mono ?_;rintro e w1 ⟨rfl,hb1⟩;have JK:Hid (Below w.heap.size w w1):=(by first | exact HK.out.trans (hb1.mono HK.out.size) | exact HK.out.drew.trans (hb1.mono HK.out.drew.size));clear HK;have HK:=JK;clear JK hb1) | (go_at_call 106;refine (sStore _ _ _).mono ?_;rintro e w1 ⟨rfl,hb1⟩;have JK:Hid (Below w.heap.size w w1):=(by first | exact HK.out.trans (hb1.mono HK.out.size) | exact HK.out.drew.trans (hb1.mono HK.out.drew.size));clear HK;have HK:=JK;clear JK hb1) | (go_at_call 76;refine (sSet _ _ _).mono ?_;rintro e w1 ⟨rfl,hb1⟩;have JK:Hid (Below w.heap.size w w1):=(by first | exact HK.out.trans (hb1.mono HK.out.size) | exact HK.out.drew.trans (hb1.mono HK.out.drew.size));clear HK;have HK:=JK;clear JK hb1) | (go_at_call 79;refine (sZero _ _ _).mono ?_;rintro e w1 ⟨rfl,hb1⟩;have JK:Hid (Below w.heap.size w w1):=(by first | exact HK.out.trans (hb1.mono HK.out.size) | exact HK.out.drew.trans (hb1.mono HK.out.drew.size));clear HK;have HK:=JK;clear JK hb1) | (go_at_call 78;refine (sJump _ _).mono ?_;rintro e w1 ⟨rfl,hb1⟩;have JK:Hid (Below w.heap.size w w1):=(by first | exact HK.out.trans (hb1.mono HK.out.size) | exact HK.out.drew.trans (hb1.mono HK.out.drew.size));clear HK;have HK:=JK;clear JK hb1) | (go_at_call 77;refine (sThree _ _ _ _ _).mono ?_;rintro e w1 ⟨rfl,hb1⟩;have JK:Hid (Below w.heap.size w w1):=(by first | exact HK.out.trans (hb1.mono HK.out.size) | exact HK.out.drew.trans (hb1.mono HK.out.drew.size));clear HK;have HK:=JK;clear JK hb1))
 refine name5 (P:=Code.wp _ _ _ _) [⟨5,4,-1,0,b+3⟩,⟨11,0,4,0,ad fr 9⟩] w.heap.size 2 rfl rfl (by omega) HK.out.size ?_
 intro W1 ho hb hz
 obtain ⟨gO,hg⟩:∃ g,w1.heap.size=g:=⟨_,rfl⟩
 rw [hg] at ho ⊢
 obtain ⟨cO,hc⟩:∃ c:Nat,c=2:=⟨_,rfl⟩
 rw [show (Value.slice (some ⟨gO,0,none⟩) 2 2)=(Value.slice (some ⟨gO,0,none⟩) 2 cO) by rw [hc]] at ho ⊢
 clear hg hz hc
 have HO:=hid_of ho
 have JK:Hid (Below w.heap.size w W1):=HK.out.trans (hb.mono HK.out.size)
 clear HK ho hb
 have HK:=JK
 clear JK
 go_wp2_with (first | (go_at_call 107;refine (sLet b _ h0 h1).mono ?_;rintro e w1 ⟨gHG,cHG,rfl,ho1,hb1⟩;have HG:=hid_of ho1;clear ho1;have J0:=hid_of (HO.out.keep (by first | exact hb1 | exact (Below.drew (Below.refl _ _)).trans hb1));clear HO;have HO:=J0;clear J0;have JK:Hid (Below w.heap.size w w1):=(by first | exact HK.out.trans (hb1.mono HK.out.size) | exact HK.out.drew.trans (hb1.mono HK.out.drew.size));clear HK;have HK:=JK;clear JK hb1) | (at_builtin;refine app5 rfl _ _ rfl _ w.heap.size (.slice (some ⟨gO,0,none⟩) 2 cO) _ rfl HO.out _ gHG 2 cHG (letR b) rfl HG.out rfl (by omega) (by first | exact Nat.le_of_ble_eq_true rfl | decide) 4 rfl HK.out.size ?_;intro gO cO w1 ho2 hb2;have JK:Hid (Below w.heap.size w w1):=HK.out.trans hb2;clear HK;have HK:=JK;clear JK;clear HO;have HO:=hid_of ho2;clear ho2 hb2) | (at_builtin;refine app5n rfl _ _ rfl _ _ w.heap.size (.slice (some ⟨gO,0,none⟩) 4 cO) _ rfl HO.out 1 ([⟨13,0,0,0,0⟩]) rfl rfl rfl (by omega) (by first | exact Nat.le_of_ble_eq_true rfl | decide) 5 rfl HK.out.size ?_;intro gO cO w1 ho2 hb2;have JK:Hid (Below w.heap.size w w1):=HK.out.trans hb2;clear HK;have HK:=JK;clear JK;clear HO;have HO:=hid_of ho2;clear ho2 hb2))
 go_ret
 exact ⟨_,_,rfl,HO.out,HK.out⟩
def closeS (b fr:Int):List I5:=((lockS b fr++shutS b fr)++[⟨1,7,0,0,1⟩,⟨6,0,-1,7,b+3⟩])++letR b
set_option maxHeartbeats 4000000 in
theorem sClose (b fr:Int) (w:World) (h0:0≤b) (h1:b≤20):Calls Tryz.prog 83 #[.int .i64 b,.int .i64 fr] w fun e w'=>∃ g c,e=.returned (.slice (some ⟨g,0,none⟩) 13 c)∧OwnT5 w' w.heap.size (.slice (some ⟨g,0,none⟩) 13 c) (closeS b fr)∧Below w.heap.size w w':=by
 have HK:Hid (Below w.heap.size w w):=Below.refl _ _
 go_enter Tryz.func83,Tryz.ntmps83
 go_upto_region 2 with (first | (go_at_call 103;refine (sLock b fr _ h0 h1).mono ?_;rintro e w1 ⟨gO,cO,rfl,ho1,hb1⟩;have HO:=hid_of ho1;clear ho1;have JK:Hid (Below w.heap.size w w1):=(by first | exact HK.out.trans (hb1.mono HK.out.size) | exact HK.out.drew.trans (hb1.mono HK.out.drew.size));clear HK;have HK:=JK;clear JK hb1) | (go_at_call 104;refine (sShut b fr _ h0 h1).mono ?_;rintro e w1 ⟨gHG,cHG,rfl,ho1,hb1⟩;have HG:=hid_of ho1;clear ho1;have J0:=hid_of (HO.out.keep (by first | exact hb1 | exact (Below.drew (Below.refl _ _)).trans hb1));clear HO;have HO:=J0;clear J0;have JK:Hid (Below w.heap.size w w1):=(by first | exact HK.out.trans (hb1.mono HK.out.size) | exact HK.out.drew.trans (hb1.mono HK.out.drew.size));clear HK;have HK:=JK;clear JK hb1) | (at_builtin;refine app5 rfl _ _ rfl _ w.heap.size (.slice (some ⟨gO,0,none⟩) 4 cO) _ rfl HO.out _ gHG 5 cHG (shutS b fr) rfl HG.out rfl (by omega) (by first | exact Nat.le_of_ble_eq_true rfl | decide) 9 rfl HK.out.size ?_;intro gO cO w1 ho2 hb2;have JK:Hid (Below w.heap.size w w1):=HK.out.trans hb2;clear HK;have HK:=JK;clear JK;clear HO;have HO:=hid_of ho2;clear ho2 hb2))
 go_upto_region 3 with (first | (go_at_call 105;refine (sLoad _ _ _).mono ?_;rintro e w1 ⟨rfl,hb1⟩;have J0:=hid_of (HO.out.keep (by first | exact hb1 | exact (Below.drew (Below.refl _ _)).trans hb1));clear HO;have HO:=J0;clear J0;have JK:Hid (Below w.heap.size w w1):=(by first | exact HK.out.trans (hb1.mono HK.out.size) | exact HK.out.drew.trans (hb1.mono HK.out.drew.size));clear HK;have HK:=JK;clear JK hb1) | (go_at_call 106;refine (sStore _ _ _).mono ?_;rintro e w1 ⟨rfl,hb1⟩;have J0:=hid_of (HO.out.keep (by first | exact hb1 | exact (Below.drew (Below.refl _ _)).trans hb1));clear HO;have HO:=J0;clear J0;have JK:Hid (Below w.heap.size w w1):=(by first | exact HK.out.trans (hb1.mono HK.out.size) | exact HK.out.drew.trans (hb1.mono HK.out.drew.size));clear HK;have HK:=JK;clear JK hb1) | (go_at_call 76;refine (sSet _ _ _).mono ?_;rintro e w1 ⟨rfl,hb1⟩;have J0:=hid_of (HO.out.keep (by first | exact hb1 | exact (Below.drew (Below.refl _ _)).trans hb1));clear HO;have HO:=J0;clear J0;have JK:Hid (Below w.heap.size w w1):=(by first | exact HK.out.trans (hb1.mono HK.out.size) | exact HK.out.drew.trans (hb1.mono HK.out.drew.size));clear HK;have HK:=JK;clear JK hb1) | (go_at_call 79;refine (sZero _ _ _).mono ?_;rintro e w1 ⟨rfl,hb1⟩;have J0:=hid_of (HO.out.keep (by first | exact hb1 | exact (Below.drew (Below.refl _ _)).trans hb1));clear HO;have HO:=J0;clear J0;have JK:Hid (Below w.heap.size w w1):=(by first | exact HK.out.trans (hb1.mono HK.out.size) | exact HK.out.drew.trans (hb1.mono HK.out.drew.size));clear HK;have HK:=JK;clear JK hb1) | (go_at_call 78;refine (sJump _ _).mono ?_;rintro e w1 ⟨rfl,hb1⟩;have J0:=hid_of (HO.out.keep (by first | exact hb1 | exact (Below.drew (Below.refl _ _)).trans hb1));clear HO;have HO:=J0;clear J0;have JK:Hid (Below w.heap.size w w1):=(by first | exact HK.out.trans (hb1.mono HK.out.size) | exact HK.out.drew.trans (hb1.mono HK.out.drew.size));clear HK;have HK:=JK;clear JK hb1) | (go_at_call 77;refine (sThree _ _ _ _ _).mono ?_;rintro e w1 ⟨rfl,hb1⟩;have J0:=hid_of (HO.out.keep (by first | exact hb1 | exact (Below.drew (Below.refl _ _)).trans hb1));clear HO;have HO:=J0;clear J0;have JK:Hid (Below w.heap.size w w1):=(by first | exact HK.out.trans (hb1.mono HK.out.size) | exact HK.out.drew.trans (hb1.mono HK.out.drew.size));clear HK;have HK:=JK;clear JK hb1) | (at_builtin;refine app5n rfl _ _ rfl _ _ w.heap.size (.slice (some ⟨gO,0,none⟩) 9 cO) _ rfl HO.out 2 ([⟨1,7,0,0,1⟩,⟨6,0,-1,7,b+3⟩]) rfl rfl rfl (by omega) (by first | exact Nat.le_of_ble_eq_true rfl | decide) 11 rfl HK.out.size ?_;intro gO cO w1 ho2 hb2;have JK:Hid (Below w.heap.size w w1):=HK.out.trans hb2;clear HK;have HK:=JK;clear JK;clear HO;have HO:=hid_of ho2;clear ho2 hb2))
 go_wp2_with (first | (go_at_call 107;refine (sLet b _ h0 h1).mono ?_;rintro e w1 ⟨gHG,cHG,rfl,ho1,hb1⟩;have HG:=hid_of ho1;clear ho1;have J0:=hid_of (HO.out.keep (by first | exact hb1 | exact (Below.drew (Below.refl _ _)).trans hb1));clear HO;have HO:=J0;clear J0;have JK:Hid (Below w.heap.size w w1):=(by first | exact HK.out.trans (hb1.mono HK.out.size) | exact HK.out.drew.trans (hb1.mono HK.out.drew.size));clear HK;have HK:=JK;clear JK hb1) | (at_builtin;refine app5 rfl _ _ rfl _ w.heap.size (.slice (some ⟨gO,0,none⟩) 11 cO) _ rfl HO.out _ gHG 2 cHG (letR b) rfl HG.out rfl (by omega) (by first | exact Nat.le_of_ble_eq_true rfl | decide) 13 rfl HK.out.size ?_;intro gO cO w1 ho2 hb2;have JK:Hid (Below w.heap.size w w1):=HK.out.trans hb2;clear HK;have HK:=JK;clear JK;clear HO;have HO:=hid_of ho2;clear ho2 hb2))
 go_ret
 exact ⟨_,_,rfl,HO.out,HK.out⟩
end
end Go.Proofs.YtkhjhibigldcgaaGreat
